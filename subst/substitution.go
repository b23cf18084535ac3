package subst

import (
	"slices"

	"armillary/api"
	"armillary/graph"
)

// A substitution makes images of nodes, and appends them to a copy of a graph. The copy may get too many nodes, as long as nobody is given it.
type substitution struct {
	walker
	args   []int
	images map[int]int // of nodes that are affected
}

func newSubstitution(g []api.GNode, args []int) *substitution {
	return &substitution{walker{graph.Copy(g)}, args, map[int]int{}}
}

// image returns the image of a node; one that is not affected is its own.
func (s *substitution) image(n int) int {
	if at, ok := s.images[n]; ok {
		return at
	}
	return n
}

// makeImages makes the images of what a type contains. Those of unions come second, for their members are no unions; the fields of records come last, for they may be anything.
func (s *substitution) makeImages(n int) {
	affected := s.affected(n)
	for _, step := range []func(int){s.single, s.union, s.fields} {
		for _, m := range affected {
			step(m)
		}
	}
}

// single makes the image of a node that is no union; that of a record so far without L.
func (s *substitution) single(n int) {
	switch node := s.graph[n]; node.Kind {
	case api.TVar:
		s.images[n] = s.args[node.Num]
	case api.TRec:
		s.images[n] = s.add(api.GNode{Kind: api.TRec, Keys: slices.Clone(node.Keys)})
	}
}

// union makes the image of a union.
func (s *substitution) union(n int) {
	node := s.graph[n]
	if node.Kind != api.TUnion {
		return
	}
	if l := s.members(node.L); len(l) == 1 {
		s.images[n] = l[0]
	} else {
		s.images[n] = s.add(api.GNode{Kind: api.TUnion, L: l})
	}
}

// fields adds to the image of a record what it lacks.
func (s *substitution) fields(n int) {
	node := s.graph[n]
	if node.Kind != api.TRec {
		return
	}
	at := s.images[n]
	for _, field := range node.L {
		s.graph[at].L = append(s.graph[at].L, s.image(field))
	}
}

func (s *substitution) add(n api.GNode) (at int) {
	s.graph = append(s.graph, n)
	return len(s.graph) - 1
}

// members returns the members of the images of some nodes, in order, each once. Many variables may have one great union as their image: it is gone through once.
func (s *substitution) members(l []int) (members []int) {
	var images []int
	for _, n := range l {
		images = append(images, s.image(n))
	}
	for _, at := range s.distinct(images) {
		members = append(members, graph.Members(s.graph, at)...)
	}
	return s.distinct(members)
}

// distinct returns some nodes, in order, each once.
func (s *substitution) distinct(l []int) (nodes []int) {
	taken := make([]bool, len(s.graph))
	for _, n := range l {
		if !taken[n] {
			taken[n] = true
			nodes = append(nodes, n)
		}
	}
	return nodes
}
