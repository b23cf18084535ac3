package canon

import (
	"cmp"
	"slices"

	"armillary/api"
	"armillary/graph"
)

// A ranking orders the types that are reached from some, in a valid graph, by their forms, which become deeper round by round.
type ranking struct {
	graph []api.GNode
	types []int   // the types that are reached
	order []int   // those that are not unions, by their forms
	rank  []int   // of each of these, the place in order of the first one with the same form
	in    [][]int // of each of these, the types whose member it is
	forms [][]int // of each type, the ranks of its members, increasing, each once
}

// newRanking returns the ranking by the forms of depth 1.
func newRanking(g []api.GNode, from []int) *ranking {
	size := len(g)
	r := &ranking{graph: g, types: reached(g, from), rank: make([]int, size), in: make([][]int, size), forms: make([][]int, size)}
	for _, n := range r.types {
		if g[n].Kind != api.TUnion {
			r.order = append(r.order, n)
		}
		for _, member := range graph.Members(g, n) {
			r.in[member] = append(r.in[member], n)
		}
	}
	r.split(r.compareFields)
	r.list()
	return r
}

// reached returns the types that are reached from some, and these themselves, each once.
func reached(g []api.GNode, from []int) (l []int) {
	known := make([]bool, len(g))
	add := func(types []int) {
		for _, n := range types {
			if !known[n] {
				known[n] = true
				l = append(l, n)
			}
		}
	}
	add(from)
	for i := 0; i < len(l); i++ {
		add(g[l[i]].L)
	}
	return l
}

// deepen goes on to forms that are one deeper; it tells whether some differ that were alike so far.
func (r *ranking) deepen() (more bool) {
	more = r.split(r.compareBelow)
	r.list()
	return more
}

// split orders the nodes of each rank among themselves; it tells whether there are more ranks then. The comparison must not ask for ranks: they change meanwhile.
func (r *ranking) split(compare func(a, b int) int) (more bool) {
	for from, to := 0, 0; from < len(r.order); from = to {
		for to = from + 1; to < len(r.order) && r.rank[r.order[to]] == from; to++ {
		}
		slices.SortFunc(r.order[from:to], compare)
		first := from
		for i := from + 1; i < to; i++ {
			if compare(r.order[i-1], r.order[i]) != 0 {
				first, more = i, true
			}
			r.rank[r.order[i]] = first
		}
	}
	return more
}

// compareFields compares nodes by all that a form of depth 1 tells of them.
func (r *ranking) compareFields(a, b int) int {
	x, y := r.graph[a], r.graph[b]
	return cmp.Or(
		cmp.Compare(x.Kind, y.Kind),
		cmp.Compare(x.Num, y.Num),
		cmp.Compare(x.Name, y.Name),
		cmp.Compare(len(x.Keys), len(y.Keys)),
		slices.Compare(x.Keys, y.Keys),
	)
}

// compareBelow compares nodes of one rank, which have equally many children, by the forms of these.
func (r *ranking) compareBelow(a, b int) int {
	for i, child := range r.graph[a].L {
		if c := slices.Compare(r.forms[child], r.forms[r.graph[b].L[i]]); c != 0 {
			return c
		}
	}
	return 0
}

// list stores the forms of all types. The nodes are taken in their order, so the ranks in each list increase.
func (r *ranking) list() {
	for _, t := range r.types {
		r.forms[t] = r.forms[t][:0]
	}
	for _, n := range r.order {
		rank := r.rank[n]
		for _, t := range r.in[n] {
			if l := r.forms[t]; len(l) == 0 || l[len(l)-1] != rank {
				r.forms[t] = append(l, rank)
			}
		}
	}
}

// alike tells whether two types do not differ so far.
func (r *ranking) alike(a, b int) bool { return slices.Equal(r.forms[a], r.forms[b]) }
