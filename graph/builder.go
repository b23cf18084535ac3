package graph

import (
	"slices"

	"armillary/api"
)

// A builder makes the graph of a forest. The members of unions are positions of nodes that are none: these nodes come first.
type builder struct {
	forest
	graph      []api.GNode
	at         map[place]int   // positions of type nodes
	expansions map[place][]int // as positions
}

func newBuilder(f forest) *builder {
	return &builder{forest: f, at: map[place]int{}, expansions: map[place][]int{}}
}

// build makes the graph; it returns ErrLimit as soon as there are too many nodes.
func (b *builder) build() api.Errno {
	types := b.types()
	for _, step := range []func(place){b.single, b.union, b.settle} {
		for _, p := range types {
			step(p)
			if len(b.graph) > api.MaxTypes {
				return api.ErrLimit
			}
		}
	}
	return api.OK
}

// single adds the graph node of a type node that is its own expansion, so far without L.
func (b *builder) single(p place) {
	if len(b.parts(p)) > 0 {
		return
	}
	if k, _, ok := b.param(p); ok {
		b.add(p, api.GNode{Kind: api.TVar, Num: k})
		return
	}
	n := b.node(p)
	keys := slices.Clone(n.Keys)
	slices.Sort(keys)
	b.add(p, api.GNode{Kind: n.Kind, Name: n.Name, Keys: keys})
}

// union adds the graph node of a union whose expansion has several nodes.
func (b *builder) union(p place) {
	if b.node(p).Kind != api.TUnion {
		return
	}
	if l := b.expand(p); len(l) > 1 {
		b.add(p, api.GNode{Kind: api.TUnion, L: l})
	}
}

// settle stores the position of a type node, and adds what its graph node lacks.
func (b *builder) settle(p place) {
	at := b.position(p)
	b.at[p] = at
	if _, bound, ok := b.param(p); ok {
		b.graph[at].L = []int{b.position(bound)}
	}
	n := b.node(p)
	if n.Kind != api.TRec {
		return
	}
	for _, key := range b.graph[at].Keys {
		child := n.L[slices.Index(n.Keys, key)]
		b.graph[at].L = append(b.graph[at].L, b.position(place{p.module, child}))
	}
}

func (b *builder) add(p place, n api.GNode) {
	b.at[p] = len(b.graph)
	b.graph = append(b.graph, n)
}

// expand returns the expansion of a type node, worked out once.
func (b *builder) expand(p place) []int {
	if l, ok := b.expansions[p]; ok {
		return l
	}
	l := b.expansion(p)
	b.expansions[p] = l
	return l
}

func (b *builder) expansion(p place) (l []int) {
	parts := b.parts(p)
	switch len(parts) {
	case 0:
		return []int{b.at[p]}
	case 1:
		return b.expand(parts[0])
	}
	taken := make([]bool, len(b.graph))
	for _, part := range parts {
		for _, at := range b.expand(part) {
			if !taken[at] {
				taken[at] = true
				l = append(l, at)
			}
		}
	}
	return l
}

// position returns the position of a type node, if all graph nodes are there.
func (b *builder) position(p place) int {
	if at, ok := b.at[p]; ok {
		return at
	}
	if to, ok := b.declared(p); ok {
		return b.position(to)
	}
	return b.expand(p)[0]
}
