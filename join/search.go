package join

import (
	"slices"

	"armillary/api"
	"armillary/graph"
)

// How far the search in the bound of a variable is.
const (
	fresh = iota
	begun
	done
)

// A search collects the types that a key has in a type of a valid graph.
type search struct {
	graph []api.GNode
	key   string
	found []int
	bound []int // of each variable, how far the search in its bound is
}

func newSearch(g []api.GNode, key string) *search {
	return &search{graph: g, key: key, bound: make([]int, len(g))}
}

// inType searches all members of a type; it tells whether each of them has the key.
func (s *search) inType(t int) bool {
	return !slices.ContainsFunc(graph.Members(s.graph, t), func(n int) bool { return !s.inNode(n) })
}

func (s *search) inNode(n int) bool {
	switch s.graph[n].Kind {
	case api.TDyn:
		s.found = append(s.found, n)
		return true
	case api.TRec:
		return s.inRecord(n)
	case api.TVar:
		return s.inVariable(n)
	}
	return false
}

func (s *search) inRecord(n int) bool {
	r := s.graph[n]
	at, ok := slices.BinarySearch(r.Keys, s.key)
	if ok {
		s.found = append(s.found, r.L[at])
	}
	return ok
}

// inVariable searches the bound of a variable. One that is reached by another way, not from its own bound, is done: what it has is found already.
func (s *search) inVariable(n int) bool {
	switch s.bound[n] {
	case begun:
		return false
	case done:
		return true
	}
	s.bound[n] = begun
	ok := s.inType(s.graph[n].L[0])
	s.bound[n] = done
	return ok
}
