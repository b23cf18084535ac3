package sig

import (
	"slices"
	"strings"

	"armillary/api"
	"armillary/graph"
)

// shown returns what a module shows, without the graph in which a function tells where the module's type nodes lie.
func shown(m api.Module, at func(node int) int) api.Sig {
	s := api.Sig{Module: m.Name}
	for _, d := range m.Types {
		s.Names, s.Types = append(s.Names, d.Name), append(s.Types, at(d.Type))
	}
	typeOf := func(v api.Var) int { return at(v.Type) }
	s.Fns = mapped(m.Fns, func(f api.Fn) api.SigFn {
		return api.SigFn{
			Name:   f.Name,
			Bounds: mapped(f.Vars, typeOf),
			Params: mapped(f.Params, typeOf),
			Ret:    at(f.Ret),
		}
	})
	return s
}

// roots are those of a signature's graph, in their order.
func roots(s api.Sig) []int {
	l := slices.Clone(s.Types)
	for _, f := range s.Fns {
		l = append(l, f.Bounds...)
		l = append(l, f.Params...)
		l = append(l, f.Ret)
	}
	return l
}

// translated returns a signature with other numbers for its types, in memory of its own.
func translated(s api.Sig, to func(int) int) api.Sig {
	return api.Sig{
		Module: strings.Clone(s.Module),
		Names:  mapped(s.Names, strings.Clone),
		Types:  mapped(s.Types, to),
		Fns: mapped(s.Fns, func(f api.SigFn) api.SigFn {
			return api.SigFn{
				Name:   strings.Clone(f.Name),
				Bounds: mapped(f.Bounds, to),
				Params: mapped(f.Params, to),
				Ret:    to(f.Ret),
			}
		}),
		Graph: graph.Copy(s.Graph),
	}
}

// mapped returns what each element of a list becomes.
func mapped[T, U any](l []T, to func(T) U) []U {
	m := make([]U, len(l))
	for i, x := range l {
		m[i] = to(x)
	}
	return m
}
