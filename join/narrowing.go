package join

import (
	"slices"
	"strings"

	"armillary/api"
	"armillary/graph"
	"armillary/lex"
)

// Sides are what there is if a test says yes, and if it says no.
type sides[T any] struct{ yes, no T }

// A narrowing tells what a test leaves of the types of a valid graph.
type narrowing struct {
	graph []api.GNode
	rules map[int]func(n int) sides[bool] // by the kind of a node: for which sides it is left
	known map[int]sides[bool]             // of types, for which sides something is left
}

// byShape is the narrowing by the shape of a node.
func byShape(g []api.GNode, like api.GNode) *narrowing {
	return newNarrowing(g, like.Kind, named{g, like.Name}.node)
}

// byKey is the narrowing by a key and the shape of a node.
func byKey(g []api.GNode, key string, like api.GNode) *narrowing {
	return newNarrowing(g, api.TRec, keyed{g, key, byShape(g, like)}.record)
}

// newNarrowing returns the narrowing by a rule for one kind of nodes.
func newNarrowing(g []api.GNode, kind int, rule func(n int) sides[bool]) *narrowing {
	w := &narrowing{graph: g, known: map[int]sides[bool]{}}
	w.rules = map[int]func(n int) sides[bool]{api.TDyn: w.dyn, api.TVar: w.variable, kind: rule}
	return w
}

// left returns the members of a type that are left.
func (w *narrowing) left(t int) (l sides[[]int]) {
	for _, n := range graph.Members(w.graph, t) {
		is := w.node(n)
		if is.yes {
			l.yes = append(l.yes, n)
		}
		if is.no {
			l.no = append(l.no, n)
		}
	}
	return l
}

// leaves tells whether something of a type is left.
func (w *narrowing) leaves(t int) sides[bool] {
	if some, ok := w.known[t]; ok {
		return some
	}
	// Whoever asks again before it is known has come from this type back to it, so through the bound of a variable that is reached again: that one is on both sides.
	w.known[t] = sides[bool]{yes: true, no: true}
	l := w.left(t)
	some := sides[bool]{yes: len(l.yes) > 0, no: len(l.no) > 0}
	w.known[t] = some
	return some
}

// node tells for which sides a node that is not a union is left. Kinds without a rule do not pass the test.
func (w *narrowing) node(n int) sides[bool] {
	if rule, ok := w.rules[w.graph[n].Kind]; ok {
		return rule(n)
	}
	return sides[bool]{no: true}
}

func (w *narrowing) dyn(int) sides[bool] { return sides[bool]{yes: true, no: true} }

func (w *narrowing) variable(n int) sides[bool] { return w.leaves(w.graph[n].L[0]) }

// A named is a test for nodes of one name; those that are no tags have none.
type named struct {
	graph []api.GNode
	name  string
}

func (t named) node(n int) sides[bool] {
	is := t.graph[n].Name == t.name
	return sides[bool]{yes: is, no: !is}
}

// A keyed is a test for records by what a narrowing leaves of the type of a key.
type keyed struct {
	graph []api.GNode
	key   string
	types *narrowing
}

func (t keyed) record(n int) sides[bool] {
	r := t.graph[n]
	at, ok := slices.BinarySearch(r.Keys, t.key)
	if !ok {
		return sides[bool]{no: true}
	}
	return t.types.leaves(r.L[at])
}

// shapeNode returns a node of the shape that a text is; a record alone is more than that: any one is of the shape rec.
func shapeNode(s string) (n api.GNode, ok bool) {
	switch s {
	case "null":
		return api.GNode{Kind: api.TNull}, true
	case "bool":
		return api.GNode{Kind: api.TBool}, true
	case "int":
		return api.GNode{Kind: api.TInt}, true
	case "rec":
		return api.GNode{Kind: api.TRec}, true
	}
	name, ok := strings.CutPrefix(s, "'")
	if !ok || !lex.IsName(name) && !lex.IsKey(name) {
		return api.GNode{}, false
	}
	return api.GNode{Kind: api.TTag, Name: strings.Clone(name)}, true
}
