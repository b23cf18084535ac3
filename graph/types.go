package graph

import (
	"slices"

	"armillary/api"
	"armillary/link"
)

// Types is the types of a module, and of those on which it depends.
type Types struct {
	graph   []api.GNode
	modules []string
	at      map[place]int // the positions of all type nodes
}

// Of returns the types of a module; or what is wrong, and the node, or -1.
func Of(p *link.Program, module string) (t *Types, node int, e api.Errno) {
	f, node, e := newForest(p, module)
	if e != api.OK {
		return nil, node, e
	}
	if node, e = f.loop(); e != api.OK {
		return nil, node, e
	}
	b := newBuilder(f)
	if e = b.build(); e != api.OK {
		return nil, -1, e
	}
	return &Types{b.graph, f.modules, b.at}, 0, api.OK
}

// Graph returns the graph.
func (t *Types) Graph() []api.GNode {
	if t == nil {
		return nil
	}
	return Copy(t.graph)
}

// At returns the position of a type node in the graph, or -1.
func (t *Types) At(module string, node int) int {
	if t == nil {
		return -1
	}
	at, ok := t.at[place{module, node}]
	if !ok {
		return -1
	}
	return at
}

// Modules returns the modules on which the module depends, in order, and the module itself.
func (t *Types) Modules() []string {
	if t == nil {
		return nil
	}
	return slices.Clone(t.modules)
}
