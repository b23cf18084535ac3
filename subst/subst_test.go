package subst_test

import (
	"fmt"
	"math"
	"slices"
	"strings"
	"testing"

	"armillary/api"
	"armillary/graph"
	"armillary/subst"
)

// Nodes of a graph, by their kinds.
func plain(kind int) api.GNode          { return api.GNode{Kind: kind} }
func tag(name string) api.GNode         { return api.GNode{Kind: api.TTag, Name: name} }
func union(l ...int) api.GNode          { return api.GNode{Kind: api.TUnion, L: l} }
func variable(num, bound int) api.GNode { return api.GNode{Kind: api.TVar, Num: num, L: []int{bound}} }

func record(keys string, l ...int) api.GNode {
	return api.GNode{Kind: api.TRec, Keys: strings.Fields(keys), L: l}
}

// inRow are so many plain nodes, and behind them others.
func inRow(n int, others ...api.GNode) []api.GNode {
	return append(slices.Repeat([]api.GNode{plain(api.TInt)}, n), others...)
}

func upTo(n int) (l []int) {
	for i := range n {
		l = append(l, i)
	}
	return l
}

// show writes nodes of a graph, by their kinds; the first one has a number.
func show(g []api.GNode, first int) string {
	names := [...]string{api.TDyn: "dyn", api.TNull: "null", api.TBool: "bool", api.TInt: "int"}
	var l []string
	for i, n := range g {
		s := fmt.Sprint(n)
		switch {
		case api.TDyn <= n.Kind && n.Kind <= api.TInt:
			s = names[n.Kind]
		case n.Kind == api.TTag:
			s = "'" + n.Name
		case n.Kind == api.TVar:
			s = fmt.Sprintf("variable %d %v", n.Num, n.L)
		case n.Kind == api.TUnion:
			s = strings.ReplaceAll(strings.Trim(fmt.Sprint(n.L), "[]"), " ", "|")
		case n.Kind == api.TRec && len(n.Keys) == len(n.L):
			var fields []string
			for k, key := range n.Keys {
				fields = append(fields, fmt.Sprintf("%s: %d", key, n.L[k]))
			}
			s = "{" + strings.Join(fields, ", ") + "}"
		}
		l = append(l, fmt.Sprintf("%d %s", first+i, s))
	}
	return strings.Join(l, "; ")
}

// told writes an answer: its position, and the nodes that are new; or its error. It tells, too, what in it is not as the chapter asks for of all answers.
func told(g, h []api.GNode, at int, e api.Errno) string {
	if e != api.OK {
		if len(h) != 0 || at != 0 {
			return fmt.Sprintf("error %d, but %d nodes, %d", e, len(h), at)
		}
		return fmt.Sprintf("error %d", e)
	}
	if len(h) < len(g) || !graph.Same(h[:len(g)], g) {
		return fmt.Sprintf("%s has not grown: %s", show(g, 0), show(h, 0))
	}
	if e := graph.Check(h); e != api.OK {
		return fmt.Sprintf("not valid: %s", show(h, 0))
	}
	s := fmt.Sprint(at)
	if len(h) > len(g) {
		s += ": " + show(h[len(g):], len(g))
	}
	return s
}

func of(g []api.GNode, n int, args ...int) string {
	h, at, e := subst.Of(g, n, args)
	return told(g, h, at, e)
}

func vars(g []api.GNode, n int) string { return fmt.Sprint(subst.Vars(g, n)) }

// chapter is the graph of the chapter's examples.
func chapter() []api.GNode {
	return []api.GNode{
		variable(0, 4), plain(api.TNull), record("hd tl", 0, 3), union(1, 2), plain(api.TDyn), plain(api.TInt), union(0, 5), union(0, 1),
	}
}

// rich is a valid graph with nodes of all kinds.
func rich() []api.GNode {
	return []api.GNode{
		plain(api.TDyn), plain(api.TNull), plain(api.TBool), plain(api.TInt), tag("a"), record(""),
		record("a b c", 6, 7, 8), union(1, 6), variable(0, 7), variable(15, 9), union(9, 8, 3), record("a", 10), record("a b", 3, 12), union(12, 5),
	}
}

// noGraphs are graphs that are not valid.
func noGraphs() [][]api.GNode {
	return [][]api.GNode{
		append(chapter(), union(0)), append(chapter(), plain(0)), append(chapter(), plain(api.TName)), append(chapter(), record("a")), append(chapter(), record("b a", 0, 0)),
		append(chapter(), union(0, 7)), append(chapter(), union(0, 0)), append(chapter(), variable(16, 0)), append(chapter(), variable(-1, 0)), append(chapter(), variable(0, 99)), append(chapter(), record("a", -1)), append(chapter(), tag("A")),
		inRow(2001), make([]api.GNode, 2001),
	}
}

// wrong is the error of graph.Check for a graph that is not valid.
func wrong(g []api.GNode) string {
	if len(g) > 2000 {
		return "error 5"
	}
	return "error 2"
}

// noNodes are none of any graph.
func noNodes(g []api.GNode) []int {
	return []int{-1, len(g), len(g) + 1, 2000, math.MaxInt, math.MinInt, 1 << 32, 1 << 16}
}

func TestP10_1_Examples(t *testing.T) {
	g := chapter()
	for _, c := range []struct {
		n    int
		args []int
		want string
	}{
		{3, []int{5}, "9: 8 {hd: 5, tl: 9}; 9 1|8"}, {0, []int{7}, "7"}, {6, []int{5}, "5"}, {6, []int{7}, "8: 8 0|1|5"}, {5, nil, "5"}, {3, nil, "error 9"},
	} {
		if got := of(g, c.n, c.args...); got != c.want {
			t.Errorf("%d, %v: %s", c.n, c.args, got)
		}
	}
}

// Each node of a graph, with args of each kind.
func TestP10_1_Kinds(t *testing.T) {
	g := rich()
	for _, c := range []struct {
		arg  int // for both variables, which are 0 and 15
		want string
	}{
		{0, "0, 1, 2, 3, 4, 5, 14: 14 {a: 14, b: 15, c: 0}; 15 1|14, 15: 14 {a: 14, b: 15, c: 0}; 15 1|14, 0, 0, 14: 14 0|3, 14: 14 {a: 15}; 15 0|3, 12, 13"},
		{3, "0, 1, 2, 3, 4, 5, 14: 14 {a: 14, b: 15, c: 3}; 15 1|14, 15: 14 {a: 14, b: 15, c: 3}; 15 1|14, 3, 3, 3, 14: 14 {a: 3}, 12, 13"},
		{8, "0, 1, 2, 3, 4, 5, 14: 14 {a: 14, b: 15, c: 8}; 15 1|14, 15: 14 {a: 14, b: 15, c: 8}; 15 1|14, 8, 8, 14: 14 8|3, 14: 14 {a: 15}; 15 8|3, 12, 13"},
		{13, "0, 1, 2, 3, 4, 5, 14: 14 {a: 14, b: 15, c: 13}; 15 1|14, 15: 14 {a: 14, b: 15, c: 13}; 15 1|14, 13, 13, 14: 14 12|5|3, 14: 14 {a: 15}; 15 12|5|3, 12, 13"},
	} {
		args := slices.Repeat([]int{c.arg}, 16)
		var l []string
		for n := range g {
			l = append(l, of(g, n, args...))
		}
		if got := strings.Join(l, ", "); got != c.want {
			t.Errorf("%d: %s", c.arg, got)
		}
	}
}

func TestP10_1_Images(t *testing.T) {
	dyn, null, boolean, integer := plain(api.TDyn), plain(api.TNull), plain(api.TBool), plain(api.TInt)
	for _, c := range []struct {
		what string
		g    []api.GNode
		args []int
		want string // of the last node
	}{
		// variables
		{"the arg with the variable's number", []api.GNode{dyn, null, integer, variable(2, 0)}, []int{0, 1, 2}, "2"},
		{"a variable for itself", []api.GNode{dyn, variable(0, 0)}, []int{1}, "1"},
		{"another variable of the same number", []api.GNode{dyn, variable(0, 0), variable(0, 0)}, []int{1}, "1"},
		{"a variable of a record of itself", []api.GNode{dyn, record("a", 2), variable(0, 0)}, []int{1}, "1"},
		{"variables change places at the same time", []api.GNode{dyn, variable(0, 0), variable(1, 0), record("a b", 1, 2)}, []int{2, 1}, "4: 4 {a: 2, b: 1}"},
		{"a variable that is its own bound", []api.GNode{integer, variable(0, 1)}, []int{0}, "0"},
		{"bounds are neither asked for nor changed", []api.GNode{integer, variable(1, 0), record("a", 1), variable(0, 2)}, []int{0}, "0"},
		{"bounds in what has a variable", []api.GNode{integer, variable(15, 0), record("a", 1), variable(0, 2), record("b", 3)}, []int{0}, "5: 5 {b: 0}"},
		// what is not affected
		{"nothing is affected", []api.GNode{integer, null, union(0, 1), record("a b", 2, 3)}, []int{0}, "3"},
		{"an arg that is affected", []api.GNode{dyn, variable(0, 0), record("a", 1), null}, []int{2}, "3"},
		{"a variable elsewhere", []api.GNode{dyn, variable(0, 0), record("a", 1), record("a", 3)}, nil, "3"},
		{"more args than variables", []api.GNode{integer, variable(0, 0)}, slices.Repeat([]int{0}, 100), "0"},
		{"parts that are not affected", []api.GNode{integer, record("a", 0), variable(0, 0), record("a b", 1, 2)}, []int{0}, "4: 4 {a: 1, b: 0}"},
		{"members that are not affected", []api.GNode{integer, record("a", 0), null, variable(0, 0), union(1, 3, 2)}, []int{0}, "5: 5 1|0|2"},
		// records
		{"a record of itself", []api.GNode{integer, variable(0, 0), record("a b c", 2, 1, 2)}, []int{0}, "3: 3 {a: 3, b: 0, c: 3}"},
		{"records of each other", []api.GNode{integer, variable(0, 0), record("a b", 3, 1), record("c", 2)}, []int{0}, "4: 4 {c: 5}; 5 {a: 4, b: 0}"},
		{"a record that leads to a variable through a circle alone", []api.GNode{integer, variable(0, 0), record("a b", 3, 4), record("a", 2), record("a b", 1, 3)}, []int{0}, "5: 5 {a: 0, b: 6}; 6 {a: 7}; 7 {a: 6, b: 5}"},
		{"equal records are not one", []api.GNode{integer, variable(0, 0), record("a", 1), record("a", 1), record("a b", 2, 3)}, []int{0}, "5: 5 {a: 6, b: 7}; 6 {a: 0}; 7 {a: 0}"},
		{"one record twice is one", []api.GNode{integer, variable(0, 0), record("a", 1), record("a b", 2, 2)}, []int{0}, "4: 4 {a: 5, b: 5}; 5 {a: 0}"},
		{"an equal record that is there is not used", []api.GNode{integer, variable(0, 0), record("a", 0), record("a", 1)}, []int{0}, "4: 4 {a: 0}"},
		{"a union in the place of a field", []api.GNode{integer, null, union(1, 0), variable(0, 0), record("a", 3)}, []int{2}, "5: 5 {a: 2}"},
		{"the record in the place of its variable", []api.GNode{integer, variable(0, 0), record("a", 1)}, []int{2}, "3: 3 {a: 2}"},
		// unions
		{"one variable twice is one node", []api.GNode{integer, variable(0, 0), variable(0, 0), union(1, 2)}, []int{0}, "0"},
		{"two variables of one type", []api.GNode{integer, variable(0, 0), variable(1, 0), union(2, 1)}, []int{0, 0}, "0"},
		{"two variables of one union make a new one", []api.GNode{integer, null, variable(0, 0), variable(1, 0), union(0, 1), union(2, 3)}, []int{4, 4}, "6: 6 0|1"},
		{"a variable of a member", []api.GNode{integer, null, variable(0, 0), union(1, 2, 0)}, []int{0}, "4: 4 1|0"},
		{"a variable of all members", []api.GNode{integer, null, variable(0, 0), union(1, 0), union(0, 2, 1)}, []int{3}, "5: 5 0|1"},
		{"a union in a union, in its place", []api.GNode{integer, null, boolean, variable(0, 0), union(1, 2), union(0, 3)}, []int{4}, "6: 6 0|1|2"},
		{"unions with members in common", []api.GNode{integer, null, boolean, tag("a"), variable(0, 0), variable(1, 0), union(1, 2), union(2, 3, 0), union(0, 5, 4)}, []int{6, 7}, "9: 9 0|2|3|1"},
		{"equal types are not one member", []api.GNode{integer, integer, variable(0, 0), union(2, 0)}, []int{1}, "4: 4 1|0"},
		{"dyn takes in nothing", []api.GNode{dyn, integer, variable(0, 0), union(1, 2)}, []int{0}, "4: 4 1|0"},
		{"the union in the place of its variable", []api.GNode{integer, null, variable(0, 0), union(1, 2, 0)}, []int{3}, "4: 4 1|2|0"},
		{"a variable of a union with that variable", []api.GNode{integer, null, variable(0, 0), union(1, 2), union(0, 2)}, []int{3}, "5: 5 0|1|2"},
		{"a member that is an arg as well", []api.GNode{integer, variable(0, 0), record("a", 1), union(1, 2)}, []int{2}, "5: 4 {a: 2}; 5 2|4"},
		{"a record in a union and in itself", []api.GNode{integer, variable(0, 0), record("a", 3), union(2, 1)}, []int{0}, "5: 4 {a: 5}; 5 4|0"},
		{"a union of records alone", []api.GNode{integer, variable(0, 0), record("a", 1), record("b", 1), union(3, 2)}, []int{0}, "7: 5 {b: 0}; 6 {a: 0}; 7 5|6"},
		{"equal unions are not one", []api.GNode{integer, null, variable(0, 0), union(1, 2), union(1, 2), record("a b", 3, 4)}, []int{0}, "6: 6 {a: 7, b: 8}; 7 1|0; 8 1|0"},
		{"a union that becomes one node, in a record", []api.GNode{integer, variable(0, 0), union(0, 1), record("a b", 2, 1)}, []int{0}, "4: 4 {a: 0, b: 0}"},
		{"a union that leads to a variable by a field", []api.GNode{integer, variable(0, 0), record("a", 1), union(0, 2)}, []int{0}, "5: 4 {a: 0}; 5 0|4"},
		{"a union of a bound is not affected", []api.GNode{integer, null, union(0, 1), variable(0, 2), record("a b", 2, 3)}, []int{0}, "5: 5 {a: 2, b: 0}"},
	} {
		if got := of(c.g, len(c.g)-1, c.args...); got != c.want {
			t.Errorf("%s: %s, not %s", c.what, got, c.want)
		}
	}
}

// New nodes are records, then unions, as they are reached from the type.
func TestP10_1_Order(t *testing.T) {
	integer, null := plain(api.TInt), plain(api.TNull)
	for _, c := range []struct {
		what string
		g    []api.GNode
		n    int
		want string // int is in the place of the variable 0
	}{
		{"by the fields, not by the nodes", []api.GNode{integer, variable(0, 0), record("a", 1), record("b", 1), record("x y", 3, 2)}, 4, "5: 5 {x: 6, y: 7}; 6 {b: 0}; 7 {a: 0}"},
		{"by the members, not by the nodes", []api.GNode{integer, variable(0, 0), record("a", 1), record("b", 1), union(3, 2)}, 4, "7: 5 {b: 0}; 6 {a: 0}; 7 5|6"},
		{"what is below a field ahead of the next one", []api.GNode{integer, variable(0, 0), record("p", 1), record("q", 2), record("r", 1), record("x y", 3, 4)}, 5, "6: 6 {x: 7, y: 9}; 7 {q: 8}; 8 {p: 0}; 9 {r: 0}"},
		{"what is reached first below a field", []api.GNode{integer, variable(0, 0), record("p", 1), record("q", 2), record("x y", 3, 2)}, 4, "5: 5 {x: 6, y: 7}; 6 {q: 7}; 7 {p: 0}"},
		{"what is reached first as a field", []api.GNode{integer, variable(0, 0), record("p", 1), record("q", 2), record("x y", 2, 3)}, 4, "5: 5 {x: 6, y: 7}; 6 {p: 0}; 7 {q: 6}"},
		{"through a union", []api.GNode{integer, null, variable(0, 0), record("p", 2), record("q", 2), union(1, 4), record("x y", 5, 3)}, 6, "7: 7 {x: 10, y: 9}; 8 {q: 0}; 9 {p: 0}; 10 1|8"},
		{"not through what is not affected", []api.GNode{integer, variable(0, 0), record("p", 1), record("q", 0), record("r", 1), record("x y z", 3, 4, 2)}, 5, "6: 6 {x: 3, y: 7, z: 8}; 7 {r: 0}; 8 {p: 0}"},
		{"not through bounds", []api.GNode{integer, variable(0, 3), record("p", 1), record("q", 4), variable(0, 0), record("x y z", 1, 2, 3)}, 5, "6: 6 {x: 0, y: 7, z: 8}; 7 {p: 0}; 8 {q: 0}"},
		{"unions by the fields", []api.GNode{integer, null, variable(0, 0), union(1, 2), union(2, 1), record("x y", 4, 3)}, 5, "6: 6 {x: 7, y: 8}; 7 0|1; 8 1|0"},
		{"a union ahead of what is below it", []api.GNode{integer, null, variable(0, 0), union(1, 2), record("a", 3), union(1, 4), union(2, 1), record("x y", 5, 6)}, 7, "8: 8 {x: 10, y: 12}; 9 {a: 11}; 10 1|9; 11 1|0; 12 0|1"},
		{"unions that are no new nodes have no place", []api.GNode{integer, null, variable(0, 0), union(0, 2), union(1, 2), union(2, 0), union(2, 1), record("a b c d", 3, 4, 5, 6)}, 7, "8: 8 {a: 0, b: 9, c: 0, d: 10}; 9 1|0; 10 0|1"},
		{"a circle from its middle", []api.GNode{integer, null, variable(0, 0), record("a b", 4, 2), union(1, 5), record("c", 3)}, 5, "6: 6 {c: 7}; 7 {a: 8, b: 0}; 8 1|6"},
		{"a circle from its union", []api.GNode{integer, null, variable(0, 0), record("a b", 4, 2), union(1, 5), record("c", 3)}, 4, "8: 6 {c: 7}; 7 {a: 8, b: 0}; 8 1|6"},
		{"a circle from its beginning", []api.GNode{integer, null, variable(0, 0), record("a b", 4, 2), union(1, 5), record("c", 3)}, 3, "6: 6 {a: 8, b: 0}; 7 {c: 6}; 8 1|7"},
	} {
		if got := of(c.g, c.n, 0); got != c.want {
			t.Errorf("%s: %s, not %s", c.what, got, c.want)
		}
	}
}

func TestP10_1_NoGraph(t *testing.T) {
	for _, g := range noGraphs() {
		for _, n := range []int{0, 3, 5, -1, 5000} {
			for _, args := range [][]int{nil, {5}, {-1}, {5000}} {
				if got := of(g, n, args...); got != wrong(g) {
					t.Errorf("%d, %v of %.200s: %s", n, args, show(g, 0), got)
				}
			}
		}
	}
}

func TestP10_1_NoNode(t *testing.T) {
	for _, g := range [][]api.GNode{chapter(), nil, {}, inRow(1), inRow(2000)} {
		for _, n := range noNodes(g) {
			if got := of(g, n) + of(g, n, 0) + of(g, n, n); got != "error 9error 9error 9" {
				t.Errorf("%d of %d nodes: %s", n, len(g), got)
			}
		}
	}
	// all args are to be nodes, also those that no variable has
	for _, g := range [][]api.GNode{chapter(), inRow(6), inRow(2000)} {
		for _, arg := range noNodes(g) {
			for _, args := range [][]int{{arg}, {5, arg}, {arg, 5}, {5, 5, arg, 5}, append(slices.Repeat([]int{5}, 30), arg)} {
				for _, n := range []int{0, 3, 5} {
					if got := of(g, n, args...); got != "error 9" {
						t.Errorf("%d, %v of %d nodes: %s", n, args, len(g), got)
					}
				}
			}
		}
	}
}

// There must be an arg for each variable: as many as the greatest number asks for.
func TestP10_1_TooFewArgs(t *testing.T) {
	for num := range 16 {
		g := []api.GNode{plain(api.TInt), variable(num, 0), record("a", 1), plain(api.TNull), union(2, 3), record("a b", 0, 4)}
		for args := range 18 {
			for _, n := range []int{1, 2, 4, 5} {
				if got := of(g, n, make([]int, args)...); (got == "error 9") != (args <= num) {
					t.Errorf("variable %d, %d args, %d: %s", num, args, n, got)
				}
			}
			if got := of(g, 0, make([]int, args)...) + of(g, 3, make([]int, args)...); got != "03" {
				t.Errorf("variable %d, %d args: %s", num, args, got)
			}
		}
	}
	g := []api.GNode{plain(api.TInt), variable(3, 0), variable(1, 0), variable(9, 0), record("a b c", 1, 2, 1), union(4, 3), variable(2, 3)}
	for n, least := range []int{0, 4, 2, 10, 4, 10, 3} {
		for args := range 12 {
			if got := of(g, n, make([]int, args)...); (got == "error 9") != (args < least) {
				t.Errorf("%d, %d args: %s", n, args, got)
			}
		}
	}
}

func TestP10_2_Vars(t *testing.T) {
	g := chapter()
	if got := vars(g, 3) + vars(g, 5); got != "[0][]" {
		t.Error(got)
	}
	g = rich()
	var l []string
	for n := range g {
		l = append(l, vars(g, n))
	}
	if got := strings.Join(l, " "); got != "[] [] [] [] [] [] [0] [0] [0] [15] [0 15] [0 15] [] []" {
		t.Error(got)
	}
	for _, c := range []struct {
		what string
		g    []api.GNode
		want string // of the last node
	}{
		{"a variable without its bound's", []api.GNode{plain(api.TInt), variable(1, 0), variable(2, 1)}, "[2]"},
		{"a variable of a record of a variable", []api.GNode{plain(api.TInt), variable(1, 0), record("a", 1), variable(2, 2), record("a", 3)}, "[2]"},
		{"its own bound", []api.GNode{variable(7, 0)}, "[7]"},
		{"each once, increasing", []api.GNode{plain(api.TInt), variable(9, 0), variable(10, 0), variable(1, 0), variable(9, 2), record("a b c d e", 1, 2, 3, 4, 3)}, "[1 9 10]"},
		{"through unions and records", []api.GNode{plain(api.TInt), variable(5, 0), record("a", 1), union(0, 2), variable(4, 0), record("a b", 3, 4)}, "[4 5]"},
		{"in circles", []api.GNode{plain(api.TInt), record("a", 3), variable(0, 0), union(1, 2), record("a b", 1, 4)}, "[0]"},
		{"circles without variables", []api.GNode{plain(api.TInt), union(0, 2), record("a b", 1, 2)}, "[]"},
	} {
		if got := vars(c.g, len(c.g)-1); got != c.want {
			t.Errorf("%s: %s", c.what, got)
		}
	}
}

func TestP10_2_AllNumbers(t *testing.T) {
	g := inRow(1)
	for num := range 16 {
		g = append(g, variable(15-num, 0))
	}
	g = append(g, union(upTo(17)...))
	if got := vars(g, 17); got != fmt.Sprint(upTo(16)) {
		t.Error(got)
	}
}

func TestP10_2_Nothing(t *testing.T) {
	for _, g := range noGraphs() {
		for _, n := range []int{0, 3, -1, 5000} {
			if got := vars(g, n); got != "[]" {
				t.Errorf("%d of %.200s: %s", n, show(g, 0), got)
			}
		}
	}
	for _, g := range [][]api.GNode{chapter(), nil, {}, {variable(0, 0)}} {
		for _, n := range noNodes(g) {
			if got := vars(g, n); got != "[]" {
				t.Errorf("%d of %d nodes: %s", n, len(g), got)
			}
		}
	}
}

// roomy is the graph of rich, all of whose lists have unused capacity, which holds something.
func roomy() []api.GNode {
	g := append(rich(), tag("room"))
	for i := range g {
		g[i].Keys = append(slices.Clone(g[i].Keys), "room")[:len(g[i].Keys)]
		g[i].L = append(slices.Clone(g[i].L), 77)[:len(g[i].L)]
	}
	return g[:len(g)-1]
}

// whole returns a graph up to the capacity of its lists.
func whole(g []api.GNode) []api.GNode {
	g = slices.Clone(g[:cap(g)])
	for i, n := range g {
		g[i].Keys, g[i].L = n.Keys[:cap(n.Keys)], n.L[:cap(n.L)]
	}
	return g
}

// spoil changes everything in a graph, up to the capacity of its lists.
func spoil(g []api.GNode) {
	for _, n := range g {
		for k := range n.Keys[:cap(n.Keys)] {
			n.Keys[:cap(n.Keys)][k] = "spoilt"
		}
		for k := range n.L[:cap(n.L)] {
			n.L[:cap(n.L)][k] = -7
		}
	}
	for i := range g[:cap(g)] {
		g[:cap(g)][i] = api.GNode{Kind: -7, Name: "spoilt"}
	}
}

// calls are the results of Of for all nodes of a graph; those of Vars it spoils.
func calls(g []api.GNode, args []int) (results [][]api.GNode) {
	for n := range g {
		if h, _, e := subst.Of(g, n, args); e == api.OK {
			results = append(results, h)
		}
		l := subst.Vars(g, n)
		for i := range l[:cap(l)] {
			l[:cap(l)][i] = -7
		}
	}
	return results
}

// sixteen are args for all variables, with room.
func sixteen(arg int) []int { return append(slices.Repeat([]int{arg}, 16), 77)[:16] }

func TestP10_3_Arguments(t *testing.T) {
	for arg := range rich() {
		g, args := roomy(), sixteen(arg)
		before, list := graph.Copy(whole(g)), slices.Clone(args[:cap(args)])
		for _, h := range calls(g, args) {
			spoil(h)
		}
		if after := whole(g); !graph.Same(before, after) || !slices.Equal(args[:cap(args)], list) {
			t.Errorf("%s, %v\nnot\n%s, %v", show(after, 0), args[:cap(args)], show(before, 0), list)
		}
	}
}

func TestP10_3_Results(t *testing.T) {
	for arg := range rich() {
		g, args := roomy(), sixteen(arg)
		want, got := calls(rich(), sixteen(arg)), calls(g, args)
		spoil(g)
		for i := range args {
			args[i] = -7
		}
		if len(want) != len(g) || len(got) != len(g) {
			t.Fatalf("%d results, %d results", len(want), len(got))
		}
		for i, h := range got {
			if !graph.Same(h, want[i]) {
				t.Errorf("%d: %s, not %s", i, show(h, 0), show(want[i], 0))
			}
		}
	}
}

// mark changes all lists of a graph where they lie, then makes each longer.
func mark(g []api.GNode) {
	for _, n := range g {
		for k := range n.L {
			n.L[k] += 5000
		}
		for k := range n.Keys {
			n.Keys[k] += "!"
		}
	}
	for i, n := range g {
		g[i].L = append(n.L, i)
		g[i].Keys = append(n.Keys, fmt.Sprint("more", i))
	}
}

// Lists of one result do not share what they hold, nor the room behind it: what is done to one is not seen in another one.
func TestP10_3_Lists(t *testing.T) {
	for arg := range rich() {
		for i, h := range calls(rich(), sixteen(arg)) {
			apart := graph.Copy(h)
			mark(h)
			mark(apart)
			if !graph.Same(h, apart) {
				t.Fatalf("arg %d, %d: %v, not %v", arg, i, h, apart)
			}
		}
	}
}
