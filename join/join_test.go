package join_test

import (
	"fmt"
	"math"
	"slices"
	"strings"
	"testing"

	"armillary/api"
	"armillary/graph"
	"armillary/join"
)

// Nodes of a graph, by their kinds.
func plain(kind int) api.GNode          { return api.GNode{Kind: kind} }
func tag(name string) api.GNode         { return api.GNode{Kind: api.TTag, Name: name} }
func union(l ...int) api.GNode          { return api.GNode{Kind: api.TUnion, L: l} }
func variable(num, bound int) api.GNode { return api.GNode{Kind: api.TVar, Num: num, L: []int{bound}} }

func record(keys string, l ...int) api.GNode {
	return api.GNode{Kind: api.TRec, Keys: strings.Fields(keys), L: l}
}

// inRow are so many plain nodes, and behind them others.
func inRow(n int, others ...api.GNode) []api.GNode {
	return append(slices.Repeat([]api.GNode{plain(api.TInt)}, n), others...)
}

func upTo(n int) (l []int) {
	for i := range n {
		l = append(l, i)
	}
	return l
}

// show writes nodes of a graph, by their kinds; the first one has a number.
func show(g []api.GNode, first int) string {
	names := [...]string{api.TDyn: "dyn", api.TNull: "null", api.TBool: "bool", api.TInt: "int"}
	var l []string
	for i, n := range g {
		s := fmt.Sprint(n)
		switch {
		case api.TDyn <= n.Kind && n.Kind <= api.TInt:
			s = names[n.Kind]
		case n.Kind == api.TTag:
			s = "'" + n.Name
		case n.Kind == api.TVar:
			s = fmt.Sprintf("variable %d %v", n.Num, n.L)
		case n.Kind == api.TUnion:
			s = strings.ReplaceAll(strings.Trim(fmt.Sprint(n.L), "[]"), " ", "|")
		case n.Kind == api.TRec && len(n.Keys) == len(n.L):
			var fields []string
			for k, key := range n.Keys {
				fields = append(fields, fmt.Sprintf("%s: %d", key, n.L[k]))
			}
			s = "{" + strings.Join(fields, ", ") + "}"
		}
		l = append(l, fmt.Sprintf("%d %s", first+i, s))
	}
	return strings.Join(l, "; ")
}

// told writes an answer: its positions, and the nodes that are new; or its error. It tells, too, what in it is not as the chapter asks for of all answers.
func told(g, h []api.GNode, e api.Errno, at ...int) string {
	if e != api.OK {
		if len(h) != 0 || slices.ContainsFunc(at, func(n int) bool { return n != 0 }) {
			return fmt.Sprintf("error %d, but %d nodes, %v", e, len(h), at)
		}
		return fmt.Sprintf("error %d", e)
	}
	if len(h) < len(g) || !graph.Same(h[:len(g)], g) {
		return fmt.Sprintf("%s has not grown: %s", show(g, 0), show(h, 0))
	}
	if e := graph.Check(h); e != api.OK {
		return fmt.Sprintf("not valid: %s", show(h, 0))
	}
	s := strings.Trim(fmt.Sprint(at), "[]")
	if len(h) > len(g) {
		s += ": " + show(h[len(g):], len(g))
	}
	return s
}

func of(g []api.GNode, l ...int) string {
	h, at, e := join.Of(g, l)
	return told(g, h, e, at)
}

func narrow(g []api.GNode, n int, shape string) string {
	h, yes, no, e := join.Narrow(g, n, shape)
	return told(g, h, e, yes, no)
}

func narrowBy(g []api.GNode, n int, key, shape string) string {
	h, yes, no, e := join.NarrowBy(g, n, key, shape)
	return told(g, h, e, yes, no)
}

func field(g []api.GNode, n int, key string) string {
	h, at, e := join.Field(g, n, key)
	return told(g, h, e, at)
}

// chapter is the graph of the chapter's examples.
func chapter() []api.GNode {
	return []api.GNode{
		plain(api.TInt), plain(api.TNull), record("a", 0), union(0, 1), plain(api.TDyn), tag("x"), record("a", 5), union(2, 6), variable(0, 3),
	}
}

// rich is a valid graph with nodes of all kinds.
func rich() []api.GNode {
	return []api.GNode{
		plain(api.TDyn), plain(api.TNull), plain(api.TBool), plain(api.TInt), tag("a"), record(""),
		record("a b c", 6, 7, 8), union(1, 6), variable(0, 7), variable(15, 9), union(9, 8, 3), record("a", 10),
	}
}

// noGraphs are graphs that are not valid.
func noGraphs() [][]api.GNode {
	return [][]api.GNode{
		append(chapter(), union(0)), append(chapter(), plain(0)), append(chapter(), plain(api.TName)), append(chapter(), record("a")), append(chapter(), record("b a", 0, 0)),
		append(chapter(), union(0, 7)), append(chapter(), union(0, 0)), append(chapter(), variable(16, 0)), append(chapter(), variable(0, 99)), append(chapter(), record("a", -1)), append(chapter(), tag("A")),
		inRow(2001), make([]api.GNode, 2001),
	}
}

// wrong is the error of graph.Check for a graph that is not valid.
func wrong(g []api.GNode) string {
	if len(g) > 2000 {
		return "error 5"
	}
	return "error 2"
}

// noNodes are none of any graph.
func noNodes(g []api.GNode) []int {
	return []int{-1, len(g), len(g) + 1, 2000, math.MaxInt, math.MinInt, 1 << 32, 1 << 16}
}

func TestP9_1_Of(t *testing.T) {
	for _, c := range []struct {
		what string
		g    []api.GNode
		l    []int
		want string
	}{
		{"the example", chapter(), []int{1, 0, 1}, "9: 9 1|0"},
		{"the example of one", chapter(), []int{0}, "0"},
		{"one several times", chapter(), []int{2, 2, 2}, "2"},
		{"each kind", rich(), []int{0, 1, 2, 3, 4, 5, 6, 8, 9, 11}, "12: 12 0|1|2|3|4|5|6|8|9|11"},
		{"a union alone is made anew", chapter(), []int{3}, "9: 9 0|1"},
		{"a union several times", chapter(), []int{7, 7}, "9: 9 2|6"},
		{"a union and its members", chapter(), []int{0, 3, 1}, "9: 9 0|1"},
		{"its members and a union", chapter(), []int{1, 3}, "9: 9 1|0"},
		{"two unions", chapter(), []int{7, 3}, "9: 9 2|6|0|1"},
		{"unions that have members in common", append(chapter(), union(1, 6), union(6, 2, 0)), []int{9, 3, 10}, "11: 11 1|6|0|2"},
		{"a union that is there is not used", append(chapter(), union(1, 0)), []int{1, 0}, "10: 10 1|0"},
		{"nodes that are equal are not one", inRow(3), []int{2, 0, 2}, "3: 3 2|0"},
		{"the bound of a variable is not gone into", chapter(), []int{8, 3}, "9: 9 8|0|1"},
		{"dyn takes in nothing", chapter(), []int{0, 4, 3}, "9: 9 0|4|1"},
	} {
		if got := of(c.g, c.l...); got != c.want {
			t.Errorf("%s: %s, not %s", c.what, got, c.want)
		}
	}
}

func TestP9_1_Errors(t *testing.T) {
	for _, g := range noGraphs() {
		for _, l := range [][]int{nil, {}, {0}, {-1}, {0, 5000}, {3, 1}} {
			if got := of(g, l...); got != wrong(g) {
				t.Errorf("%v of %.200s: %s", l, show(g, 0), got)
			}
		}
	}
	for _, g := range [][]api.GNode{chapter(), nil, inRow(2000)} {
		if got := of(g) + of(g, []int{}...); got != "error 2error 2" {
			t.Errorf("nothing: %s", got)
		}
		for _, n := range noNodes(g) {
			for _, l := range [][]int{{n}, {0, n}, {n, 0}, {0, 1, n}, {0, n, 1}, {n, n}} {
				if got := of(g, l...); got != "error 9" {
					t.Errorf("%v of %d nodes: %s", l, len(g), got)
				}
			}
		}
	}
}

func TestP9_2_NarrowExamples(t *testing.T) {
	g := chapter()
	for _, c := range []struct {
		n           int
		shape, want string
	}{
		{3, "int", "0 1"}, {4, "'x", "9 4: 9 'x"}, {4, "rec", "4 4"}, {8, "int", "8 8"}, {8, "rec", "-1 8"}, {0, "x", "error 2"},
	} {
		if got := narrow(g, c.n, c.shape); got != c.want {
			t.Errorf("%d, %s: %s", c.n, c.shape, got)
		}
	}
}

// Each node of a graph, and what remains of it by each shape.
func TestP9_2_NarrowKinds(t *testing.T) {
	g := rich()
	for _, c := range []struct{ shape, want string }{
		{"null", "12 0: 12 null, 1 -1, -1 2, -1 3, -1 4, -1 5, -1 6, 1 6, 8 8, 9 9, 12 10: 12 9|8, -1 11"},
		{"bool", "12 0: 12 bool, -1 1, 2 -1, -1 3, -1 4, -1 5, -1 6, -1 7, -1 8, 9 9, 9 10, -1 11"},
		{"int", "12 0: 12 int, -1 1, -1 2, 3 -1, -1 4, -1 5, -1 6, -1 7, -1 8, 9 9, 12 13: 12 9|3; 13 9|8, -1 11"},
		{"rec", "0 0, -1 1, -1 2, -1 3, -1 4, 5 -1, 6 -1, 6 1, 8 8, 9 9, 12 10: 12 9|8, 11 -1"},
		{"'a", "12 0: 12 'a, -1 1, -1 2, -1 3, 4 -1, -1 5, -1 6, -1 7, -1 8, 9 9, 9 10, -1 11"},
		{"'b", "12 0: 12 'b, -1 1, -1 2, -1 3, -1 4, -1 5, -1 6, -1 7, -1 8, 9 9, 9 10, -1 11"},
		{"'rec", "12 0: 12 'rec, -1 1, -1 2, -1 3, -1 4, -1 5, -1 6, -1 7, -1 8, 9 9, 9 10, -1 11"},
	} {
		var l []string
		for n := range g {
			l = append(l, narrow(g, n, c.shape))
		}
		if got := strings.Join(l, ", "); got != c.want {
			t.Errorf("%s: %s", c.shape, got)
		}
	}
}

func TestP9_2_NarrowUnions(t *testing.T) {
	for _, c := range []struct {
		what  string
		g     []api.GNode
		shape string
		want  string // of the last node
	}{
		{"all remain", append(inRow(2), union(0, 1)), "int", "2 -1"},
		{"nothing remains", append(inRow(2), union(0, 1)), "null", "-1 2"},
		{"several on both sides", append(inRow(2, tag("a"), tag("b"), tag("a")), union(2, 0, 3, 1, 4)), "'a", "6 7: 6 2|4; 7 0|3|1"},
		{"one that is no", append(inRow(2, tag("a")), union(2, 1, 0)), "int", "4 2: 4 1|0"},
		{"several that are no", append(inRow(2, tag("a")), union(2, 1, 0)), "'a", "2 4: 4 1|0"},
		{"dyn and one of the shape", []api.GNode{plain(api.TDyn), plain(api.TInt), union(0, 1)}, "int", "4 0: 3 int; 4 3|1"},
		{"dyn behind one of the shape", []api.GNode{plain(api.TDyn), plain(api.TInt), union(1, 0)}, "int", "4 0: 3 int; 4 1|3"},
		{"dyn and one of another shape", []api.GNode{plain(api.TDyn), plain(api.TInt), union(1, 0)}, "null", "3 2: 3 null"},
		{"dyn in the middle", []api.GNode{plain(api.TDyn), plain(api.TInt), plain(api.TNull), union(1, 0, 2)}, "null", "5 6: 4 null; 5 4|2; 6 1|0"},
		{"several dyns", []api.GNode{plain(api.TDyn), plain(api.TDyn), plain(api.TInt), plain(api.TDyn), union(3, 2, 0)}, "'t", "7 4: 5 't; 6 't; 7 5|6"},
		{"several dyns, one of which is not a member", []api.GNode{plain(api.TDyn), plain(api.TDyn), plain(api.TInt), plain(api.TDyn), union(3, 2, 0)}, "int", "7 8: 5 int; 6 int; 7 5|2|6; 8 3|0"},
		{"dyns for rec are themselves", []api.GNode{plain(api.TDyn), plain(api.TDyn), record(""), union(1, 2, 0)}, "rec", "3 4: 4 1|0"},
		{"dyns for rec, and another type", []api.GNode{plain(api.TDyn), plain(api.TInt), record(""), union(1, 2, 0)}, "rec", "4 5: 4 2|0; 5 1|0"},
		{"a variable that is dyn is no new node", []api.GNode{plain(api.TDyn), variable(0, 0)}, "int", "1 1"},
		{"a variable that is dyn, in a union", []api.GNode{plain(api.TDyn), variable(0, 0), plain(api.TNull), union(2, 1)}, "int", "1 3"},
		{"a variable that is dyn, beside dyn", []api.GNode{plain(api.TDyn), variable(0, 0), plain(api.TNull), union(2, 1, 0)}, "bool", "5 3: 4 bool; 5 1|4"},
		{"a variable of the shape alone", []api.GNode{plain(api.TInt), variable(0, 0), plain(api.TNull), union(2, 1)}, "int", "1 2"},
		{"a variable of a variable", []api.GNode{plain(api.TInt), variable(0, 0), variable(1, 1), plain(api.TNull), union(3, 2)}, "int", "2 3"},
		{"a variable of a union of variables", []api.GNode{plain(api.TInt), variable(0, 0), variable(1, 3), plain(api.TNull), union(1, 2), variable(2, 4)}, "int", "5 5"},
		{"its own bound", []api.GNode{variable(0, 0)}, "int", "0 0"},
		{"bounds in a circle", []api.GNode{variable(0, 1), variable(0, 2), variable(0, 0)}, "'a", "2 2"},
		{"a circle through a union", []api.GNode{plain(api.TInt), union(0, 2), variable(0, 1)}, "int", "2 2"},
		{"a union that is in a circle", []api.GNode{plain(api.TInt), variable(0, 2), union(0, 1)}, "int", "2 1"},
		{"what leads into a circle", []api.GNode{variable(0, 0), plain(api.TInt), union(0, 1), variable(1, 2)}, "int", "3 3"},
		{"a circle that is found late", []api.GNode{plain(api.TInt), variable(0, 2), union(0, 3), variable(0, 4), union(0, 1), variable(0, 3)}, "null", "5 5"},
		{"two ways to a variable are no circle", []api.GNode{plain(api.TInt), variable(0, 0), variable(1, 1), variable(2, 1), union(2, 3), variable(3, 4)}, "int", "5 -1"},
		{"two ways of two members to a variable are none", []api.GNode{plain(api.TInt), variable(0, 0), variable(1, 1), variable(2, 1), union(2, 3)}, "int", "4 -1"},
		{"a variable and its bound are none", []api.GNode{plain(api.TInt), variable(0, 0), variable(1, 1), union(1, 2)}, "null", "-1 3"},
		{"a circle through a record is none", []api.GNode{variable(0, 1), record("a", 0), variable(0, 1)}, "int", "-1 2"},
		{"a record of a union is a record", []api.GNode{plain(api.TNull), record("a", 2), union(0, 1)}, "rec", "1 0"},
	} {
		if got := narrow(c.g, len(c.g)-1, c.shape); got != c.want {
			t.Errorf("%s: %s, not %s", c.what, got, c.want)
		}
	}
}

func TestP9_2_NarrowByExamples(t *testing.T) {
	g := chapter()
	for _, c := range []struct {
		n                int
		key, shape, want string
	}{
		{7, "a", "'x", "6 2"}, {2, "b", "int", "-1 2"},
	} {
		if got := narrowBy(g, c.n, c.key, c.shape); got != c.want {
			t.Errorf("%d, %s, %s: %s", c.n, c.key, c.shape, got)
		}
	}
}

func TestP9_2_NarrowBy(t *testing.T) {
	for _, c := range []struct {
		what  string
		g     []api.GNode
		shape string
		want  string // of the last node, by the key b
	}{
		{"dyn", []api.GNode{plain(api.TDyn)}, "int", "0 0"},
		{"null", []api.GNode{plain(api.TNull)}, "null", "-1 0"},
		{"bool", []api.GNode{plain(api.TBool)}, "bool", "-1 0"},
		{"int", []api.GNode{plain(api.TInt)}, "int", "-1 0"},
		{"a tag", []api.GNode{tag("b")}, "'b", "-1 0"},
		{"a record that lacks the key", []api.GNode{plain(api.TInt), record("a c", 0, 0)}, "int", "-1 1"},
		{"a record without keys", []api.GNode{record("")}, "rec", "-1 0"},
		{"a field of the shape", []api.GNode{plain(api.TInt), plain(api.TNull), record("a b c", 1, 0, 1)}, "int", "2 -1"},
		{"a field of another shape", []api.GNode{plain(api.TInt), plain(api.TNull), record("a b c", 0, 1, 0)}, "int", "-1 2"},
		{"a field of a union", []api.GNode{plain(api.TInt), plain(api.TNull), union(0, 1), record("b", 2)}, "int", "3 3"},
		{"a field of dyn is no new node", []api.GNode{plain(api.TDyn), record("b", 0)}, "int", "1 1"},
		{"a field of a record", []api.GNode{record("b", 0)}, "rec", "0 -1"},
		{"a field of a variable", []api.GNode{plain(api.TInt), variable(0, 0), record("b", 1)}, "int", "2 -1"},
		{"a field of a variable in a circle", []api.GNode{variable(0, 0), record("b", 0)}, "int", "1 1"},
		{"a variable", []api.GNode{plain(api.TInt), record("b", 0), variable(0, 1)}, "int", "2 -1"},
		{"a variable of another shape", []api.GNode{plain(api.TInt), record("b", 0), variable(0, 1)}, "null", "-1 2"},
		{"a variable of int", []api.GNode{plain(api.TInt), variable(0, 0)}, "int", "-1 1"},
		{"a variable of dyn", []api.GNode{plain(api.TDyn), variable(0, 0)}, "int", "1 1"},
		{"a variable of a union", []api.GNode{plain(api.TInt), record("b", 0), union(0, 1), variable(0, 2)}, "int", "3 3"},
		{"its own bound", []api.GNode{variable(0, 0)}, "int", "0 0"},
		{"bounds in a circle", []api.GNode{variable(0, 1), variable(0, 0), union(0, 1)}, "int", "2 2"},
		{"a circle through a record is none", []api.GNode{variable(0, 1), record("b", 0), variable(0, 1)}, "int", "-1 2"},
		{"a circle through a record, for rec", []api.GNode{variable(0, 1), record("b", 0), variable(0, 1)}, "rec", "2 -1"},
		{"a circle below a record", []api.GNode{plain(api.TInt), union(0, 2), variable(0, 1), record("b", 2), variable(1, 3)}, "int", "4 4"},
		{"two ways to a variable", []api.GNode{plain(api.TInt), record("b", 0), variable(0, 1), variable(1, 2), variable(2, 2), union(4, 3)}, "int", "5 -1"},
		{"records, and others", []api.GNode{plain(api.TInt), plain(api.TNull), record("b", 0), record("b", 1), record("a b", 1, 0), union(3, 2, 1, 4)}, "int", "6 7: 6 2|4; 7 3|1"},
		{"all remain", []api.GNode{plain(api.TInt), record("b", 0), plain(api.TDyn), union(2, 1)}, "int", "3 2"},
		{"all remain on both sides", []api.GNode{plain(api.TDyn), record("b", 0), union(0, 1)}, "'b", "2 2"},
		{"yes is new, no is the type", []api.GNode{plain(api.TDyn), record("b", 0), plain(api.TNull), union(0, 2, 1)}, "null", "4 3: 4 0|1"},
	} {
		if got := narrowBy(c.g, len(c.g)-1, "b", c.shape); got != c.want {
			t.Errorf("%s: %s, not %s", c.what, got, c.want)
		}
	}
}

// What is reached by the key is not yet known when it is reached by the bound, nor the other way round.
func TestP9_2_NarrowByBoth(t *testing.T) {
	// 1 is a record whose key leads to 2, which leads to 1 by its bound; as a record, it is not null
	g := []api.GNode{plain(api.TNull), record("a", 2), variable(0, 3), union(0, 1), union(1, 2)}
	if got := narrowBy(g, 4, "a", "null"); got != "4 4" {
		t.Error(got)
	}
	// without null in the bound there is nothing for yes, wherever it begins
	g[3] = union(1, 5)
	g = append(g, record("a", 4))
	for n, want := range []string{"-1 0", "-1 1", "-1 2", "-1 3", "-1 4", "-1 5"} {
		if got := narrowBy(g, n, "a", "null"); got != want {
			t.Errorf("%d: %s", n, got)
		}
	}
}

// Shapes, and what is none.
var (
	shapes   = []string{"null", "bool", "int", "rec", "'a", "'x_9", "'int", "'rec", "'null", "'module", "'is", "'true", "'a23456789_123456"}
	noShapes = []string{"", "'", "''", "''a", "a", "x", "dyn", "true", "fn", "Null", "INT", "null ", " int", "int\n", "rec\x00", "'A", "'aB", "'1", "'_a", "'a ", "' a", "'a'", "'a23456789_1234567", "'ä", "'a-b", "\u2019a", "nullx", "null|int", "{}", "rec{}", strings.Repeat("a", 70000), "'" + strings.Repeat("a", 70000)}
)

func TestP9_2_Errors(t *testing.T) {
	for _, g := range noGraphs() {
		for _, n := range []int{0, 3, -1, 5000} {
			for _, shape := range []string{"int", "x"} {
				if got := narrow(g, n, shape); got != wrong(g) {
					t.Errorf("%d, %s of %.200s: %s", n, shape, show(g, 0), got)
				}
				if got := narrowBy(g, n, "a", shape) + narrowBy(g, n, "A", shape); got != wrong(g)+wrong(g) {
					t.Errorf("%d, %s of %.200s, by key: %s", n, shape, show(g, 0), got)
				}
			}
		}
	}
	for _, g := range [][]api.GNode{chapter(), nil, inRow(2000)} {
		for _, n := range noNodes(g) {
			for _, shape := range []string{"int", "x", ""} {
				if got := narrow(g, n, shape) + narrowBy(g, n, "a", shape) + narrowBy(g, n, "", shape); got != "error 9error 9error 9" {
					t.Errorf("%d of %d nodes, %s: %s", n, len(g), shape, got)
				}
			}
		}
	}
}

func TestP9_2_NoShape(t *testing.T) {
	g := chapter()
	for _, shape := range noShapes {
		for n := range g {
			if got := narrow(g, n, shape) + narrowBy(g, n, "a", shape) + narrowBy(g, n, "b", shape); got != "error 2error 2error 2" {
				t.Errorf("%d, %.100s: %s", n, shape, got)
			}
		}
	}
	for _, key := range []string{"", "A", "int", "rec", "null", "is", "'a", "1", "_a", "a ", "a b", "a23456789_1234567", "ä", strings.Repeat("a", 70000)} {
		for n := range g {
			if got := narrowBy(g, n, key, "int") + narrowBy(g, n, key, "x"); got != "error 2error 2" {
				t.Errorf("%d, key %.100s: %s", n, key, got)
			}
		}
	}
	for _, shape := range shapes {
		if got := narrow(g, 0, shape) + narrowBy(g, 0, "a23456789_123456", shape); strings.Contains(got, "error") {
			t.Errorf("%s: %s", shape, got)
		}
	}
}

func TestP9_3_Field(t *testing.T) {
	for _, c := range []struct {
		what string
		g    []api.GNode
		want string // of the last node, for the key b
	}{
		{"a record", []api.GNode{plain(api.TInt), plain(api.TNull), record("a b c", 0, 1, 0)}, "1"},
		{"a record of itself", []api.GNode{record("b", 0)}, "0"},
		{"a record that lacks the key", []api.GNode{plain(api.TInt), record("a c", 0, 0)}, "error 160"},
		{"a record without keys", []api.GNode{record("")}, "error 160"},
		{"dyn", []api.GNode{plain(api.TDyn)}, "0"},
		{"null", []api.GNode{plain(api.TNull)}, "error 160"},
		{"bool", []api.GNode{plain(api.TBool)}, "error 160"},
		{"int", []api.GNode{plain(api.TInt)}, "error 160"},
		{"a tag", []api.GNode{tag("b")}, "error 160"},
		{"a union is made anew", []api.GNode{plain(api.TInt), plain(api.TNull), union(0, 1), record("b", 2)}, "4: 4 0|1"},
		{"a variable that is a field is not gone into", []api.GNode{plain(api.TInt), variable(0, 0), record("b", 1)}, "1"},
		{"records", []api.GNode{plain(api.TInt), plain(api.TNull), record("b", 1), record("b", 0), union(2, 3)}, "5: 5 1|0"},
		{"records of one type", []api.GNode{plain(api.TInt), record("b", 0), record("a b", 0, 0), union(2, 1)}, "0"},
		{"records of unions", []api.GNode{plain(api.TInt), plain(api.TNull), tag("a"), union(2, 0), union(1, 2), record("b", 3), record("b", 4), union(6, 5)}, "8: 8 1|2|0"},
		{"records and dyn", []api.GNode{plain(api.TInt), plain(api.TDyn), record("b", 0), union(1, 2)}, "4: 4 1|0"},
		{"a record of dyn and another dyn", []api.GNode{plain(api.TDyn), plain(api.TDyn), record("b", 0), union(1, 2)}, "4: 4 1|0"},
		{"a record of dyn and that dyn", []api.GNode{plain(api.TDyn), record("b", 0), union(1, 0)}, "0"},
		{"one that lacks the key", []api.GNode{plain(api.TInt), record("a", 0), record("b", 0), union(2, 1)}, "error 160"},
		{"null beside a record", []api.GNode{plain(api.TNull), record("b", 0), union(1, 0)}, "error 160"},
		{"null beside dyn", []api.GNode{plain(api.TNull), plain(api.TDyn), union(0, 1)}, "error 160"},
		{"a variable", []api.GNode{plain(api.TInt), record("b", 0), variable(0, 1)}, "0"},
		{"a variable of dyn", []api.GNode{plain(api.TDyn), variable(0, 0)}, "0"},
		{"a variable of int", []api.GNode{plain(api.TInt), variable(0, 0)}, "error 160"},
		{"a variable that lacks the key", []api.GNode{plain(api.TInt), record("a", 0), variable(0, 1)}, "error 160"},
		{"a variable of a union", []api.GNode{plain(api.TInt), plain(api.TDyn), record("b", 0), union(2, 1), variable(0, 3)}, "5: 5 0|1"},
		{"a variable of a union with null", []api.GNode{plain(api.TInt), plain(api.TNull), record("b", 0), union(2, 1), variable(0, 3)}, "error 160"},
		{"a variable in a union, in its place", []api.GNode{plain(api.TInt), plain(api.TNull), tag("a"), record("b", 0), record("b", 1), record("b", 2), union(3, 4), variable(0, 6), union(5, 7, 4)}, "9: 9 2|0|1"},
		{"variables of variables", []api.GNode{plain(api.TInt), record("b", 0), variable(0, 1), variable(1, 2)}, "0"},
		{"its own bound", []api.GNode{variable(0, 0)}, "error 160"},
		{"bounds in a circle", []api.GNode{variable(0, 1), variable(0, 0)}, "error 160"},
		{"a circle beside a record", []api.GNode{plain(api.TInt), record("b", 0), union(1, 3), variable(0, 2)}, "error 160"},
		{"a union that is in a circle", []api.GNode{plain(api.TInt), record("b", 0), variable(0, 3), union(1, 2)}, "error 160"},
		{"what leads into a circle", []api.GNode{variable(0, 0), variable(1, 0)}, "error 160"},
		{"a circle through a record is none", []api.GNode{variable(0, 1), record("b", 0)}, "0"},
		{"two ways to a variable are none", []api.GNode{plain(api.TInt), record("b", 0), variable(0, 1), variable(1, 2), variable(2, 2), union(4, 3), variable(3, 5)}, "0"},
		{"two ways of two members are none", []api.GNode{plain(api.TInt), plain(api.TNull), record("b", 0), record("b", 1), variable(0, 2), variable(1, 4), union(5, 3, 4)}, "7: 7 0|1"},
	} {
		if got := field(c.g, len(c.g)-1, "b"); got != c.want {
			t.Errorf("%s: %s, not %s", c.what, got, c.want)
		}
	}
}

func TestP9_3_FieldExamples(t *testing.T) {
	g := chapter()
	if got := field(g, 7, "a"); got != "9: 9 0|5" {
		t.Error(got)
	}
	if got := field(g, 3, "a"); got != "error 160" {
		t.Error(got)
	}
}

// A key need not be a name: no record has another one, dyn has them all.
func TestP9_3_FieldKeys(t *testing.T) {
	g := append(chapter(), variable(0, 4))
	for _, key := range []string{"", "b", "A", "int", "'a", "a ", "aa", strings.Repeat("a", 70000)} {
		for _, n := range []int{2, 6, 7} {
			if got := field(g, n, key); got != "error 160" {
				t.Errorf("%d, %.100s: %s", n, key, got)
			}
		}
		if got := field(g, 4, key) + field(g, 9, key); got != "44" {
			t.Errorf("%.100s: %s", key, got)
		}
	}
}

func TestP9_3_Errors(t *testing.T) {
	for _, g := range noGraphs() {
		for _, n := range []int{0, 2, -1, 5000} {
			if got := field(g, n, "a"); got != wrong(g) {
				t.Errorf("%d of %.200s: %s", n, show(g, 0), got)
			}
		}
	}
	for _, g := range [][]api.GNode{chapter(), nil, inRow(2000)} {
		for _, n := range noNodes(g) {
			if got := field(g, n, "a") + field(g, n, ""); got != "error 9error 9" {
				t.Errorf("%d of %d nodes: %s", n, len(g), got)
			}
		}
	}
}

func TestP9_3_IsShape(t *testing.T) {
	for _, s := range shapes {
		if !join.IsShape(s) {
			t.Errorf("%s is none", s)
		}
	}
	for _, s := range noShapes {
		if join.IsShape(s) {
			t.Errorf("%.100q is one", s)
		}
	}
}

// Every text of one byte, alone, as a tag, and in one.
func TestP9_3_IsShapeBytes(t *testing.T) {
	for c := range 256 {
		b := string([]byte{byte(c)})
		letter := 'a' <= c && c <= 'z'
		inName := letter || '0' <= c && c <= '9' || c == '_'
		if join.IsShape(b) || join.IsShape("'"+b) != letter || join.IsShape("'a"+b) != inName || join.IsShape("null"+b) {
			t.Errorf("%q", b)
		}
		if mark := b == "'"; join.IsShape(b+"null") != mark || join.IsShape(b+"x") != mark || join.IsShape(b+"null0") != mark {
			t.Errorf("%q ahead", b)
		}
	}
}

// roomy is a graph all of whose lists have unused capacity, which holds something.
func roomy() []api.GNode {
	g := append(append(rich(), union(1, 4), union(0, 6, 11, 2)), tag("room"))
	for i := range g {
		g[i].Keys = append(slices.Clone(g[i].Keys), "room")[:len(g[i].Keys)]
		g[i].L = append(slices.Clone(g[i].L), 77)[:len(g[i].L)]
	}
	return g[:len(g)-1]
}

// whole returns a graph up to the capacity of its lists.
func whole(g []api.GNode) []api.GNode {
	g = slices.Clone(g[:cap(g)])
	for i, n := range g {
		g[i].Keys, g[i].L = n.Keys[:cap(n.Keys)], n.L[:cap(n.L)]
	}
	return g
}

// calls are calls of all functions on a graph, with results of all kinds.
func calls(g []api.GNode, l []int) (results [][]api.GNode) {
	add := func(h []api.GNode, e api.Errno) {
		if e == api.OK {
			results = append(results, h)
		}
	}
	h, _, e := join.Of(g, l)
	add(h, e)
	for n := range g {
		for _, shape := range shapes {
			h, _, _, e := join.Narrow(g, n, shape)
			add(h, e)
			h, _, _, e = join.NarrowBy(g, n, "a", shape)
			add(h, e)
		}
		h, _, e := join.Of(g, []int{n})
		add(h, e)
		for _, key := range []string{"a", "b", "z"} {
			h, _, e := join.Field(g, n, key)
			add(h, e)
		}
	}
	return results
}

// spoil changes everything in a graph, up to the capacity of its lists.
func spoil(g []api.GNode) {
	for _, n := range g {
		for k := range n.Keys[:cap(n.Keys)] {
			n.Keys[:cap(n.Keys)][k] = "spoilt"
		}
		for k := range n.L[:cap(n.L)] {
			n.L[:cap(n.L)][k] = -7
		}
	}
	for i := range g[:cap(g)] {
		g[:cap(g)][i] = api.GNode{Kind: -7, Name: "spoilt"}
	}
}

func TestP9_4_Arguments(t *testing.T) {
	g, l := roomy(), append([]int{6, 10, 12, 10, 6}, 77)[:5]
	before, list := graph.Copy(whole(g)), slices.Clone(l[:cap(l)])
	for _, h := range calls(g, l) {
		spoil(h)
	}
	if after := whole(g); !graph.Same(before, after) || !slices.Equal(l[:cap(l)], list) {
		t.Errorf("%s, %v\nnot\n%s, %v", show(after, 0), l[:cap(l)], show(before, 0), list)
	}
}

func TestP9_4_Results(t *testing.T) {
	g, l := roomy(), []int{6, 10, 12, 10, 6}
	want, got := calls(extended(), l), calls(g, l)
	spoil(g)
	for i := range l {
		l[i] = -7
	}
	if len(want) != len(got) || len(got) < 300 {
		t.Fatalf("%d results, %d results", len(want), len(got))
	}
	for i, h := range got {
		if !graph.Same(h, want[i]) {
			t.Errorf("%d: %s, not %s", i, show(h, 0), show(want[i], 0))
		}
	}
}

// extended is the graph of roomy, without room.
func extended() []api.GNode { return append(rich(), union(1, 4), union(0, 6, 11, 2)) }

// Lists of one result do not share what they hold, nor the room behind it.
func TestP9_4_Lists(t *testing.T) {
	for i, h := range calls(extended(), []int{6, 10, 12}) {
		want := graph.Copy(h)
		for n := range h {
			h[n].L = append(h[n].L, 1000+n)
			h[n].Keys = append(h[n].Keys, fmt.Sprint("more", n))
			for k := range len(h[n].L) {
				h[n].L[k] += 5000
			}
		}
		for n := range h {
			size := len(want[n].L)
			if len(h[n].L) != size+1 || h[n].L[size] != 6000+n || h[n].Keys[len(want[n].Keys)] != fmt.Sprint("more", n) {
				t.Fatalf("%d: %d of %s", i, n, show(h, 0))
			}
			for k := range size {
				if h[n].L[k] != want[n].L[k]+5000 {
					t.Fatalf("%d: %d of %s", i, n, show(h, 0))
				}
			}
		}
	}
}
