package infer

import (
	"slices"

	"armillary/api"
	"armillary/graph"
)

// A pattern is what matching asks of the members of a pattern's node.
type pattern struct {
	at             int
	variables, num int   // how many of them are variables; the Num of one of these
	first          []int // by class: the first one of that class, -1 for none
}

// patternAt returns the pattern of a node, which is made once.
func (m *matching) patternAt(n int) *pattern {
	if m.patterns[n] == nil {
		m.patterns[n] = m.newPattern(n)
	}
	return m.patterns[n]
}

func (m *matching) newPattern(n int) *pattern {
	p := &pattern{at: n, first: slices.Repeat([]int{-1}, slices.Max(m.classes)+1)}
	for _, o := range graph.Members(m.graph, n) {
		switch class := m.classes[o]; {
		case m.graph[o].Kind == api.TVar:
			p.variables++
			p.num = m.graph[o].Num
		case p.first[class] < 0:
			p.first[class] = o
		}
	}
	return p
}

// like returns the first member of a class.
func (p *pattern) like(class int) (o int, ok bool) {
	o = p.first[class]
	return o, o >= 0
}

// similar returns the class of each node. Nodes of one class are similar; but the class 0 is that of variables and unions, which are similar to nothing.
func similar(g []api.GNode) (classes []int) {
	type likeness struct {
		kind int
		name string
	}
	known := map[likeness]int{}
	for _, n := range g {
		if n.Kind == api.TVar || n.Kind == api.TUnion {
			classes = append(classes, 0)
			continue
		}
		like := likeness{n.Kind, n.Name}
		if known[like] == 0 {
			known[like] = len(known) + 1
		}
		classes = append(classes, known[like])
	}
	return classes
}

// Nodes are a list of nodes, each once.
type nodes struct {
	list  []int
	taken []bool
}

// add adds a node of a graph that has so many of them.
func (l *nodes) add(n, size int) {
	if l.taken == nil {
		l.taken = make([]bool, size)
	}
	if !l.taken[n] {
		l.taken[n] = true
		l.list = append(l.list, n)
	}
}
