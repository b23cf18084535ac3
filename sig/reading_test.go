package sig_test

import (
	"regexp"
	"slices"
	"strings"

	"armillary/api"
	"armillary/canon"
	"armillary/graph"
	"armillary/link"
)

// What follows answers as the chapter says, clause by clause.

var (
	aName     = regexp.MustCompile(`^[a-z][a-z0-9_]{0,15}$`)
	aTypeName = regexp.MustCompile(`^[A-Z][A-Za-z0-9]{0,15}$`)
	keywords  = strings.Fields("module import type fn let in if then else is as true false null dyn bool int rec")
)

func isName(s string) bool     { return aName.MatchString(s) && !slices.Contains(keywords, s) }
func isTypeName(s string) bool { return aTypeName.MatchString(s) }

// rootsOf are those of the definition.
func rootsOf(types []int, fns []api.SigFn) (l []int) {
	l = append(l, types...)
	for _, f := range fns {
		l = slices.Concat(l, f.Bounds, f.Params, []int{f.Ret})
	}
	return l
}

func repeated(l []string) bool {
	l = slices.Clone(l)
	slices.Sort(l)
	return len(slices.Compact(l)) < len(l)
}

func all[T any](l []T, is func(T) bool) bool {
	return !slices.ContainsFunc(l, func(x T) bool { return !is(x) })
}

// isSig tells whether a signature is valid.
func isSig(s api.Sig) bool {
	var fns []string
	for _, f := range s.Fns {
		if len(f.Bounds) > 16 || len(f.Params) > 16 {
			return false
		}
		fns = append(fns, f.Name)
	}
	if !isName(s.Module) || !all(s.Names, isTypeName) || !all(fns, isName) || repeated(s.Names) || repeated(fns) {
		return false
	}
	if len(s.Names) > 64 || len(fns) > 64 || len(s.Types) != len(s.Names) {
		return false
	}
	roots := rootsOf(s.Types, s.Fns)
	g, at, e := canon.Of(s.Graph, roots)
	return e == api.OK && graph.Same(g, s.Graph) && slices.Equal(at, roots)
}

// A reading decodes bytes; it stops at the first error.
type reading struct{ left string }

type stop api.Errno

// unless stops with an error unless something is so.
func unless(ok bool, e api.Errno) {
	if !ok {
		panic(stop(e))
	}
}

func (r *reading) take(n int) string {
	unless(n <= len(r.left), api.ErrTrunc)
	s := r.left[:n]
	r.left = r.left[n:]
	return s
}

func (r *reading) num() (n int) {
	for k := 0; ; k++ {
		d := int(r.take(1)[0])
		unless(k < 7 || d < 16, api.ErrForm)
		unless(k == 0 || d != 0, api.ErrForm)
		n |= d % 128 << (7 * k)
		if d < 128 {
			return n
		}
	}
}

func (r *reading) times(most int, read func()) {
	n := r.num()
	unless(n <= most, api.ErrLimit)
	for range n {
		read()
	}
}

func (r *reading) text() string {
	n := r.num()
	unless(n <= 65536, api.ErrLimit)
	return r.take(n)
}

func (r *reading) nums() (l []int) {
	r.times(8000, func() { l = append(l, r.num()) })
	return l
}

func (r *reading) texts() (l []string) {
	r.times(8000, func() { l = append(l, r.text()) })
	return l
}

func (r *reading) sig() (s api.Sig) {
	s.Module = r.text()
	s.Names = r.texts()
	s.Types = r.nums()
	r.times(64, func() {
		var f api.SigFn
		f.Name = r.text()
		f.Bounds = r.nums()
		f.Params = r.nums()
		f.Ret = r.num()
		s.Fns = append(s.Fns, f)
	})
	r.times(2000, func() {
		var n api.GNode
		n.Kind = r.num()
		n.Num = r.num()
		n.Name = r.text()
		n.Keys = r.texts()
		n.L = r.nums()
		s.Graph = append(s.Graph, n)
	})
	unless(r.left == "", api.ErrForm)
	unless(isSig(s), api.ErrForm)
	return s
}

// readParse is what Parse is to return.
func readParse(b string) (s api.Sig, e api.Errno) {
	defer func() {
		if x, ok := recover().(stop); ok {
			s, e = api.Sig{}, api.Errno(x)
		}
	}()
	r := reading{b}
	return r.sig(), api.OK
}

// readOf is what Of is to return.
func readOf(p *link.Program, module string) (api.Sig, int, api.Errno) {
	types, node, e := graph.Of(p, module)
	if e != api.OK {
		return api.Sig{}, node, e
	}
	m, _ := p.Module(module)
	s := api.Sig{Module: module}
	var roots []int
	root := func(node int) int {
		roots = append(roots, types.At(module, node))
		return len(roots) - 1
	}
	list := func(l []api.Var) (k []int) {
		for _, v := range l {
			k = append(k, root(v.Type))
		}
		return k
	}
	for _, d := range m.Types {
		s.Names = append(s.Names, d.Name)
		s.Types = append(s.Types, root(d.Type))
	}
	for _, f := range m.Fns {
		bounds, params := list(f.Vars), list(f.Params)
		s.Fns = append(s.Fns, fn(f.Name, bounds, params, root(f.Ret)))
	}
	g, at, _ := canon.Of(types.Graph(), roots)
	s.Graph = g
	each := func(l []int) {
		for i, k := range l {
			l[i] = at[k]
		}
	}
	each(s.Types)
	for i, f := range s.Fns {
		each(f.Bounds)
		each(f.Params)
		s.Fns[i].Ret = at[f.Ret]
	}
	return s, 0, api.OK
}
