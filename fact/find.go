package fact

import (
	"armillary/api"
	"armillary/sub"
)

// A search finds facts, each of which is followed by those that it refers to.
type search struct {
	judge
	below below
	at    map[pair]int // where the fact of a pair is
	facts []api.Fact
}

func newSearch(g []api.GNode, pairs [][2]int) *search {
	return &search{judge: judge{graph: g}, below: newBelow(g, pairs), at: map[pair]int{}}
}

// full tells whether there are more facts than there may be: then the search is given up.
func (s *search) full() bool { return len(s.facts) > api.MaxFacts }

// find returns where the fact of a pair that holds is. It calls itself no deeper than there are facts.
func (s *search) find(p pair) int {
	if k, ok := s.at[p]; ok {
		return k
	}
	k := len(s.facts)
	s.at[p] = k
	f := api.Fact{A: p.a, B: p.b, Why: s.reason(p)}
	s.facts = append(s.facts, f)
	x, _ := s.form(f)
	for i := 0; i < x.count && !s.full(); i++ {
		at := s.find(s.part(f, x, i))
		s.facts[k].Why = append(s.facts[k].Why, at)
	}
	return k
}

// reason returns how Why begins in the fact of a pair that holds: for a union with nothing, otherwise with what sub.Pick says.
func (s *search) reason(p pair) []int {
	if s.graph[p.a].Kind == api.TUnion {
		return nil
	}
	f := api.Fact{A: p.a, B: p.b, Why: []int{0}}
	for k := range s.members(p.b) {
		if f.Why[0] = k; s.covers(f) {
			return f.Why
		}
	}
	return []int{byBound}
}

// covers tells whether the member of B that Why names covers A.
func (s *search) covers(f api.Fact) bool {
	x, _ := s.form(f)
	for i := range x.count {
		if p := s.part(f, x, i); p.a < 0 || !s.below.holds(p) {
			return false
		}
	}
	return x.fits
}

// A below tells which types are subtypes of which, of those to which some pairs lead.
type below struct {
	place []int // of each node of the graph, in rows; -1 if no pair leads to it
	rows  [][]bool
}

// newBelow asks sub for all these types at once, as it begins anew with each question, and thousands of facts have some each. All other nodes are left out: what holds does not depend on them, and there may be many more.
func newBelow(g []api.GNode, pairs [][2]int) below {
	nodes, place := reached(g, pairs)
	h := make([]api.GNode, len(nodes))
	for i, n := range nodes {
		h[i] = g[n]
		h[i].L = make([]int, len(g[n].L))
		for k, child := range g[n].L {
			h[i].L[k] = place[child]
		}
	}
	rows, _ := sub.All(h, false)
	return below{place, rows}
}

func (b below) holds(p pair) bool { return b.rows[b.place[p.a]][b.place[p.b]] }

// reached returns the nodes to which some pairs lead, and of each node of the graph its place among them, or -1.
func reached(g []api.GNode, pairs [][2]int) (nodes, place []int) {
	place = make([]int, len(g))
	for n := range place {
		place[n] = -1
	}
	reach := func(n int) {
		if place[n] < 0 {
			place[n] = len(nodes)
			nodes = append(nodes, n)
		}
	}
	for _, p := range pairs {
		reach(p[0])
		reach(p[1])
	}
	for i := 0; i < len(nodes); i++ {
		for _, child := range g[nodes[i]].L {
			reach(child)
		}
	}
	return nodes, place
}
