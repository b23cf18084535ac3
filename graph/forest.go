package graph

import (
	"slices"
	"strings"

	"armillary/api"
	"armillary/link"
)

// A place is that of a node in the tree of a module.
type place struct {
	module string
	node   int
}

// A forest is the trees of a module, and of those on which it depends, in which all names resolve.
type forest struct {
	program *link.Program
	modules []string // in order, the module itself last
	trees   map[string]api.Module
}

// newForest returns the forest of a module; or what is wrong with the names, and the node, or -1.
func newForest(p *link.Program, module string) (f forest, node int, e api.Errno) {
	if node, e = p.Fault(module); e != api.OK {
		return forest{}, node, e
	}
	if !slices.Contains(p.Order(), module) {
		return forest{}, -1, api.ErrName
	}
	f = forest{p, append(p.Below(module), strings.Clone(module)), map[string]api.Module{}}
	for _, name := range f.modules {
		if _, e = p.Fault(name); e != api.OK {
			return forest{}, -1, e
		}
		f.trees[name], _ = p.Module(name)
	}
	return f, 0, api.OK
}

func (f forest) node(p place) api.Node { return f.trees[p.module].Nodes[p.node] }

// types returns all type nodes, module by module.
func (f forest) types() (l []place) {
	for _, name := range f.modules {
		for i, n := range f.trees[name].Nodes {
			if isType(n) {
				l = append(l, place{name, i})
			}
		}
	}
	return l
}

// isType tells a type from an expression: of the kinds that a tree has, those of types come first.
func isType(n api.Node) bool { return n.Kind <= api.TUnion }

// declared returns the node of the declared type that a node is the name of.
func (f forest) declared(p place) (to place, ok bool) {
	mod, decl, _, e := f.program.Type(p.module, p.node)
	if e != api.OK || decl < 0 {
		return place{}, false
	}
	return place{mod, f.trees[mod].Types[decl].Type}, true
}

// param returns which type parameter of its function a node is the name of, and the node of the bound.
func (f forest) param(p place) (k int, bound place, ok bool) {
	_, _, k, e := f.program.Type(p.module, p.node)
	if e != api.OK || k < 0 {
		return 0, place{}, false
	}
	fn := f.trees[p.module].Fns[f.program.Owner(p.module, p.node)]
	return k, place{p.module, fn.Vars[k].Type}, true
}

// parts returns the nodes whose expansions form that of a node: those of a union, or the one of the declared type that is named. There are none if a node is its own expansion.
func (f forest) parts(p place) []place {
	if to, ok := f.declared(p); ok {
		return []place{to}
	}
	if f.node(p).Kind == api.TUnion {
		return f.children(p)
	}
	return nil
}

func (f forest) children(p place) (l []place) {
	for _, child := range f.node(p).L {
		l = append(l, place{p.module, child})
	}
	return l
}
