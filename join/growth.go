package join

import (
	"slices"

	"armillary/api"
	"armillary/graph"
)

// A growth is a copy of a graph to which nodes are appended. It may have too many of them, as long as nobody is given it.
type growth struct{ graph []api.GNode }

func newGrowth(g []api.GNode) *growth { return &growth{graph.Copy(g)} }

// joined returns the grown graph, and the join of some types in it.
func joined(g []api.GNode, types []int) (h []api.GNode, at int, e api.Errno) {
	x := newGrowth(g)
	at = x.join(types)
	if x.tooGreat() {
		return nil, 0, api.ErrLimit
	}
	return x.graph, at, api.OK
}

// restricted returns the grown graph, and the restrictions of a type in it to what is left of its members.
func (x *growth) restricted(t int, left sides[[]int]) (h []api.GNode, yes, no int, e api.Errno) {
	yes = x.restrict(t, left.yes)
	no = x.restrict(t, left.no)
	if x.tooGreat() {
		return nil, 0, 0, api.ErrLimit
	}
	return x.graph, yes, no, api.OK
}

func (x *growth) tooGreat() bool { return len(x.graph) > api.MaxTypes }

// add appends a node.
func (x *growth) add(n api.GNode) (at int) {
	x.graph = append(x.graph, n)
	return len(x.graph) - 1
}

// replaceDyns puts new nodes into the place of those that are TDyn.
func (x *growth) replaceDyns(l []int, by api.GNode) {
	for i, n := range l {
		if x.graph[n].Kind == api.TDyn {
			l[i] = x.add(by)
		}
	}
}

// join returns the join of some types.
func (x *growth) join(types []int) int {
	var members []int
	for _, t := range x.distinct(types) {
		members = append(members, graph.Members(x.graph, t)...)
	}
	members = x.distinct(members)
	if len(members) == 1 {
		return members[0]
	}
	return x.add(api.GNode{Kind: api.TUnion, L: members})
}

// restrict returns the restriction of a type to some members; to other nodes in their place, their join.
func (x *growth) restrict(t int, l []int) int {
	switch {
	case len(l) == 0:
		return -1
	case slices.Equal(l, graph.Members(x.graph, t)):
		return t
	}
	return x.join(l)
}

// distinct returns some nodes, each once, in memory of its own.
func (x *growth) distinct(l []int) (nodes []int) {
	taken := make([]bool, len(x.graph))
	for _, n := range l {
		if !taken[n] {
			taken[n] = true
			nodes = append(nodes, n)
		}
	}
	return nodes
}
