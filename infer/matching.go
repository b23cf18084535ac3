package infer

import (
	"iter"
	"slices"

	"armillary/api"
	"armillary/graph"
)

// A pair is a pattern, and a type with which it is matched.
type pair struct{ pattern, with int }

// A block is the pairs of a pattern with 64 types side by side, the first of which is 64 * with.
type block struct{ pattern, with int }

// A matching assigns nodes of a valid graph to the Nums of variables.
type matching struct {
	graph      []api.GNode
	classes    []int // of each node: see similar
	patterns   []*pattern
	matched    map[block]uint64 // a bit for each pair: there may be millions of them, for which a map with a key for each is too slow
	fieldsDone [][]bool         // of each record of a pattern, with which others it has no field left that is not matched
	assigned   [api.MaxParts]nodes
	ambiguous  bool // whether a pattern has two variables
}

// deepest is how often matching may call itself before it begins anew with what is left. There may be four million pairs, each below the one before it: the stack has no room for them.
const deepest = 1000

func newMatching(g []api.GNode) *matching {
	return &matching{
		graph: g, classes: similar(g),
		patterns: make([]*pattern, len(g)), matched: map[block]uint64{}, fieldsDone: make([][]bool, len(g)),
	}
}

// matchAll matches patterns with their types, in order.
func (m *matching) matchAll(patterns, types []int) api.Errno {
	var left []pair // those of which something is left, as it is too deep: each one ahead of the one above it
	var match func(p pair, depth int) (whole bool)
	match = func(p pair, depth int) bool {
		if depth == deepest {
			left = append(left, p)
			return false
		}
		for next := range m.below(p) {
			if m.isNew(next) && !match(next, depth+1) {
				left = append(left, p)
				return false
			}
		}
		return true
	}
	for i, n := range patterns {
		p := pair{n, types[i]}
		if !m.isNew(p) {
			continue
		}
		// What was done for a pair has no effect when it is done again, so matching it once more continues it.
		for waiting := []pair{p}; len(waiting) > 0; {
			last := len(waiting) - 1
			left = left[:0]
			match(waiting[last], 0)
			slices.Reverse(left)
			waiting = append(waiting[:last], left...)
		}
	}
	if m.ambiguous {
		return api.ErrInfer
	}
	return api.OK
}

// isNew tells whether a pair is met for the first time.
func (m *matching) isNew(p pair) bool {
	at, bit := block{p.pattern, p.with / 64}, uint64(1)<<(p.with%64)
	if m.matched[at]&bit != 0 {
		return false
	}
	m.matched[at] |= bit
	return true
}

// below yields the pairs that are matched for a pair, in order. What is assigned for it is assigned when its turn comes.
func (m *matching) below(p pair) iter.Seq[pair] {
	return func(yield func(pair) bool) {
		o := m.patternAt(p.pattern)
		if o.variables > 1 {
			m.ambiguous = true
			return
		}
		for _, s := range graph.Members(m.graph, p.with) {
			if !m.member(o, s, yield) {
				return
			}
		}
	}
}

// member does what is to be done for one member of a type; it tells whether more pairs are asked for.
func (m *matching) member(p *pattern, s int, yield func(pair) bool) bool {
	o, ok := p.like(m.classes[s])
	switch {
	case ok && m.graph[o].Kind == api.TRec:
		return m.fields(o, s, yield)
	case ok:
	case p.variables == 1:
		m.assigned[p.num].add(s, len(m.graph))
	case m.graph[s].Kind == api.TVar:
		return yield(pair{p.at, m.graph[s].L[0]})
	}
	return true
}

// fields yields the pairs of the types that two records have at the same keys. Two records may meet in as many pairs of unions as there are: but once all their fields are matched, nothing is left to do.
func (m *matching) fields(o, s int, yield func(pair) bool) bool {
	if m.fieldsDone[o] == nil {
		m.fieldsDone[o] = make([]bool, len(m.graph))
	}
	if m.fieldsDone[o][s] {
		return true
	}
	pattern, with := m.graph[o], m.graph[s]
	for i, key := range pattern.Keys {
		at, ok := slices.BinarySearch(with.Keys, key)
		if ok && !yield(pair{pattern.L[i], with.L[at]}) {
			return false
		}
	}
	m.fieldsDone[o][s] = true
	return true
}
