package link

import (
	"slices"

	"armillary/api"
)

// A unit is a module, and the places of its declarations by their names: of several with one name the first one's.
type unit struct {
	module api.Module
	places map[naming]int
}

// A naming is a name, and the kind of the nodes that name what has it: TName for a type, ECall for a function.
type naming struct {
	kind int
	name string
}

func newUnit(m api.Module) unit {
	u := unit{module: m, places: map[naming]int{}}
	for i, d := range m.Types {
		u.declare(naming{api.TName, d.Name}, i)
	}
	for i, f := range m.Fns {
		u.declare(naming{api.ECall, f.Name}, i)
	}
	return u
}

func (u unit) declare(n naming, place int) {
	if _, ok := u.places[n]; !ok {
		u.places[n] = place
	}
}

// repeated returns the node of the first declaration whose name an earlier one has.
func (u unit) repeated() (node int, e api.Errno) {
	for i, d := range u.module.Types {
		if u.places[naming{api.TName, d.Name}] != i {
			return d.Type, api.ErrName
		}
	}
	for i, f := range u.module.Fns {
		if u.places[naming{api.ECall, f.Name}] != i {
			return f.Body, api.ErrName
		}
	}
	return 0, api.OK
}

// owner returns the function that a node belongs to, or -1 for a declared type. Nodes lie in the order in which they end, so a declaration has those up to its last one, Type or Body, that are behind the ones of earlier declarations.
func (u unit) owner(node int) int {
	types := u.module.Types
	if len(types) > 0 && node <= types[len(types)-1].Type {
		return -1
	}
	return slices.IndexFunc(u.module.Fns, func(f api.Fn) bool { return node <= f.Body })
}

// param returns the place of the type parameter that a name means at a node, or -1.
func (u unit) param(node int, name string) int {
	fn := u.owner(node)
	if fn < 0 {
		return -1
	}
	return slices.IndexFunc(u.module.Fns[fn].Vars, func(v api.Var) bool { return v.Name == name })
}

func (u unit) exists(node int) bool { return 0 <= node && node < len(u.module.Nodes) }
