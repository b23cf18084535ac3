package sub_test

import (
	"fmt"
	"math"
	"slices"
	"strings"
	"testing"

	"armillary/api"
	"armillary/graph"
	"armillary/sub"
)

// Nodes of a graph, by their kinds.
func plain(kind int) api.GNode          { return api.GNode{Kind: kind} }
func tag(name string) api.GNode         { return api.GNode{Kind: api.TTag, Name: name} }
func union(l ...int) api.GNode          { return api.GNode{Kind: api.TUnion, L: l} }
func variable(num, bound int) api.GNode { return api.GNode{Kind: api.TVar, Num: num, L: []int{bound}} }

func record(keys string, l ...int) api.GNode {
	return api.GNode{Kind: api.TRec, Keys: strings.Fields(keys), L: l}
}

// inRow are so many plain nodes, and behind them others.
func inRow(n int, others ...api.GNode) []api.GNode {
	return append(slices.Repeat([]api.GNode{plain(api.TInt)}, n), others...)
}

func upTo(n int) (l []int) {
	for i := range n {
		l = append(l, i)
	}
	return l
}

// show writes the nodes of a graph, by their kinds.
func show(g []api.GNode) string {
	names := [...]string{api.TDyn: "dyn", api.TNull: "null", api.TBool: "bool", api.TInt: "int"}
	var l []string
	for i, n := range g {
		s := fmt.Sprint(n)
		switch {
		case api.TDyn <= n.Kind && n.Kind <= api.TInt:
			s = names[n.Kind]
		case n.Kind == api.TTag:
			s = "'" + n.Name
		case n.Kind == api.TVar:
			s = fmt.Sprintf("variable %d %v", n.Num, n.L)
		case n.Kind == api.TUnion:
			s = strings.ReplaceAll(strings.Trim(fmt.Sprint(n.L), "[]"), " ", "|")
		case n.Kind == api.TRec && len(n.Keys) == len(n.L):
			var fields []string
			for k, key := range n.Keys {
				fields = append(fields, fmt.Sprintf("%s: %d", key, n.L[k]))
			}
			s = "{" + strings.Join(fields, ", ") + "}"
		}
		l = append(l, fmt.Sprintf("%d %s", i, s))
	}
	return strings.Join(l, "; ")
}

// chapter is the graph of the chapter's examples.
func chapter() []api.GNode {
	return []api.GNode{
		plain(api.TInt), plain(api.TNull), plain(api.TDyn), record("a", 0), record("a b", 0, 1), union(0, 1), record("a", 5),
		variable(0, 3), record("a", 8), record("a", 10), record("a b", 9, 0),
	}
}

// rich is a valid graph with nodes of all kinds.
func rich() []api.GNode {
	return []api.GNode{
		plain(api.TDyn), plain(api.TNull), plain(api.TBool), plain(api.TInt), tag("a"), record(""),
		record("a b c", 6, 7, 8), union(1, 6), variable(0, 7), variable(15, 9), union(9, 8, 3), record("a", 10),
	}
}

func TestP8_1_Examples(t *testing.T) {
	g := chapter()
	for _, c := range []struct {
		a, b        int
		may, strict bool
	}{
		{4, 3, true, true}, {3, 4, false, false}, {3, 6, true, true}, {6, 3, false, false}, {0, 5, true, true},
		{2, 0, true, false}, {0, 2, true, false}, {2, 2, true, true},
		{7, 3, true, true}, {3, 7, false, false}, {9, 8, true, true}, {8, 9, false, false},
	} {
		if may, strict := sub.May(g, c.a, c.b), sub.Strict(g, c.a, c.b); may != c.may || strict != c.strict {
			t.Errorf("%d, %d: %t, strictly %t", c.a, c.b, may, strict)
		}
	}
}

// Each case is a graph, and the pairs of its first nodes for which the first one is a subtype, row by row, and strictly.
var ruleCases = []struct {
	what        string
	g           []api.GNode
	may, strict string
}{
	{"plain types and tags", []api.GNode{plain(api.TNull), plain(api.TBool), plain(api.TInt), tag("a"), tag("b"), tag("a"), plain(api.TNull)},
		"0,6 1 2 3,5 4 3,5 0,6", "0,6 1 2 3,5 4 3,5 0,6"},
	{"dyn and each kind", rich(),
		"0,1,2,3,4,5,6,7,8,9,10,11 0,1,7 0,2 0,3,10 0,4 0,5 0,5,6,7 0,7 0,7,8,10 0,1,2,3,4,5,6,7,8,9,10,11 0,10 0,5,11",
		"0 1,7 2 3,10 4 5 5,6,7 7 7,8,10 0,1,2,3,4,5,6,7,8,9,10,11 10 5,11"},
	{"keys", []api.GNode{record(""), record("a", 0), record("b", 0), record("a b", 0, 0), record("a c", 0, 0), record("a b c", 0, 0, 0)},
		"0 0,1 0,2 0,1,2,3 0,1,4 0,1,2,3,4,5", "0 0,1 0,2 0,1,2,3 0,1,4 0,1,2,3,4,5"},
	{"fields", []api.GNode{plain(api.TInt), plain(api.TNull), union(0, 1), record("a b", 0, 1), record("a b", 1, 0), record("a b", 2, 1), record("a b", 2, 2), record("b", 1), record("b", 2)},
		"0,2 1,2 2 3,5,6,7,8 4,6,8 5,6,7,8 6,8 7,8 8", "0,2 1,2 2 3,5,6,7,8 4,6,8 5,6,7,8 6,8 7,8 8"},
	{"no null is a record, and no record is null", []api.GNode{plain(api.TNull), record(""), union(0, 1), record("a", 0), record("a", 1)},
		"0,2 1,2 2 1,2,3 1,2,4", "0,2 1,2 2 1,2,3 1,2,4"},
	{"unions", append([]api.GNode{plain(api.TNull), plain(api.TInt), tag("a")}, union(0, 1), union(1, 0), union(1, 2), union(2, 1, 0)),
		"0,3,4,6 1,3,4,5,6 2,5,6 3,4,6 3,4,6 5,6 6", "0,3,4,6 1,3,4,5,6 2,5,6 3,4,6 3,4,6 5,6 6"},
	{"a union of dyn", []api.GNode{plain(api.TDyn), plain(api.TInt), plain(api.TNull), union(0, 1), union(1, 2)},
		"0,1,2,3,4 0,1,3,4 0,2,3,4 0,1,3,4 0,3,4", "0,3 1,3,4 2,4 3 4"},
	{"a record of a union is no union of records", []api.GNode{plain(api.TNull), plain(api.TInt), union(0, 1), record("a", 0), record("a", 1), union(3, 4), record("a", 2)},
		"0,2 1,2 2 3,5,6 4,5,6 5,6 6", "0,2 1,2 2 3,5,6 4,5,6 5,6 6"},
	{"variables", []api.GNode{plain(api.TInt), plain(api.TNull), union(0, 1), variable(0, 0), variable(0, 2), variable(1, 0), variable(0, 1), union(3, 1)},
		"0,2 1,2,7 2 0,2,3,4,7 2,4 0,2,5 1,2,4,6,7 2,7", "0,2 1,2,7 2 0,2,3,4,7 2,4 0,2,5 1,2,4,6,7 2,7"},
	{"variables of dyn", []api.GNode{plain(api.TInt), plain(api.TDyn), variable(0, 1), variable(1, 1), variable(0, 0)},
		"0,1 0,1,2,3,4 0,1,2,3,4 0,1,2,3,4 0,1,2,4", "0 1 1,2 1,3 0,4"},
	{"a bound against a union as a whole", []api.GNode{plain(api.TInt), plain(api.TNull), plain(api.TBool), union(0, 1), variable(3, 3), union(1, 2, 0), union(0, 4), union(1, 2)},
		"0,3,5,6 1,3,5,7 2,5,7 3,5 3,4,5,6 5 3,5,6 5,7", "0,3,5,6 1,3,5,7 2,5,7 3,5 3,4,5,6 5 3,5,6 5,7"},
	{"bounds of bounds", []api.GNode{plain(api.TInt), variable(0, 0), variable(1, 1), variable(2, 2), union(1, 0), record("a", 3), record("a", 1)},
		"0,4 0,1,4 0,1,2,4 0,1,2,3,4 0,4 5,6 6", "0,4 0,1,4 0,1,2,4 0,1,2,3,4 0,4 5,6 6"},
	{"what is its own bound is a subtype of everything", []api.GNode{plain(api.TInt), variable(0, 1), variable(1, 3), variable(2, 2), record("a", 0), variable(1, 6), union(5, 0)},
		"0,6 0,1,2,3,4,5,6 0,1,2,3,4,5,6 0,1,2,3,4,5,6 4 0,5,6 0,6", "0,6 0,1,2,3,4,5,6 0,1,2,3,4,5,6 0,1,2,3,4,5,6 4 0,5,6 0,6"},
	{"records of themselves", []api.GNode{record("a", 0), record("a", 2), record("a", 1), record("a b", 3, 4), plain(api.TInt), record("a", 5), record("b", 0)},
		"0,1,2,5 0,1,2,5 0,1,2,5 0,1,2,3,5 4 0,1,2,5 6", "0,1,2,5 0,1,2,5 0,1,2,5 0,1,2,3,5 4 0,1,2,5 6"},
	{"lists", []api.GNode{plain(api.TNull), plain(api.TInt), record("h t", 1, 3), union(0, 2), record("h t", 3, 5), union(4, 0), record("t", 7), union(0, 6)},
		"0,3,5,7 1 2,3,6,7 3,7 4,5,6,7 5,7 6,7 7", "0,3,5,7 1 2,3,6,7 3,7 4,5,6,7 5,7 6,7 7"},
}

// rows writes which of so many nodes are supertypes, row by row.
func rows(n int, holds func(a, b int) bool) string {
	var l []string
	for a := range n {
		var row []string
		for b := range n {
			if holds(a, b) {
				row = append(row, fmt.Sprint(b))
			}
		}
		l = append(l, strings.Join(row, ","))
	}
	return strings.Join(l, " ")
}

func TestP8_1_Rules(t *testing.T) {
	for _, c := range ruleCases {
		if got := rows(len(c.g), func(a, b int) bool { return sub.May(c.g, a, b) }); got != c.may {
			t.Errorf("%s: %s", c.what, got)
		}
		if got := rows(len(c.g), func(a, b int) bool { return sub.Strict(c.g, a, b) }); got != c.strict {
			t.Errorf("%s: strictly %s", c.what, got)
		}
	}
}

// noGraphs are graphs that are not valid.
func noGraphs() [][]api.GNode {
	return [][]api.GNode{
		append(chapter(), union(0)), append(chapter(), plain(0)), append(chapter(), plain(api.TName)), append(chapter(), record("a")), append(chapter(), record("b a", 0, 0)),
		append(chapter(), union(0, 5)), append(chapter(), union(0, 0)), append(chapter(), variable(16, 0)), append(chapter(), variable(0, 99)), append(chapter(), record("a", -1)), append(chapter(), tag("A")),
		inRow(2001), make([]api.GNode, 2001),
	}
}

// noNodes are none of any graph.
func noNodes(g []api.GNode) []int {
	return []int{-1, len(g), len(g) + 1, 2000, math.MaxInt, math.MinInt, 1 << 32, 1 << 16}
}

func TestP8_1_Errors(t *testing.T) {
	for _, g := range noGraphs() {
		if sub.May(g, 0, 0) || sub.Strict(g, 0, 0) || sub.May(g, 0, 5) || sub.May(g, -1, 0) {
			t.Errorf("%.200s", show(g))
		}
	}
	for _, g := range [][]api.GNode{chapter(), rich(), nil, inRow(2000)} {
		for _, n := range noNodes(g) {
			for _, other := range []int{0, 2, n, -1} {
				if sub.May(g, n, other) || sub.May(g, other, n) || sub.Strict(g, n, other) || sub.Strict(g, other, n) {
					t.Errorf("%d of %d nodes, %d", n, len(g), other)
				}
			}
		}
	}
}

func TestP8_2_Examples(t *testing.T) {
	g := chapter()
	for _, c := range [][3]int{{7, 3, -1}, {1, 5, 1}, {5, 5, -2}} {
		if got := sub.Pick(g, c[0], c[1]); got != c[2] {
			t.Errorf("%v: %d", c, got)
		}
	}
}

func TestP8_2_Pick(t *testing.T) {
	for _, c := range []struct {
		what string
		g    []api.GNode
		want string // of each pair, row by row
	}{
		{"plain types", []api.GNode{plain(api.TInt), plain(api.TNull), tag("a"), union(1, 0), union(2, 1)},
			"0 -2 -2 1 -2; -2 0 -2 0 1; -2 -2 0 -2 0; -2 -2 -2 -2 -2; -2 -2 -2 -2 -2"},
		{"the first one of several", []api.GNode{record(""), record("a", 0), record("a b", 0, 0), union(2, 1, 0), union(1, 2), union(0, 2)},
			"0 -2 -2 2 -2 0; 0 0 -2 1 0 0; 0 0 0 0 0 0; -2 -2 -2 -2 -2 -2; -2 -2 -2 -2 -2 -2; -2 -2 -2 -2 -2 -2"},
		{"a member ahead of the type itself", []api.GNode{record("a", 2), record("a b", 3, 2), plain(api.TInt), union(2, 4), plain(api.TNull), union(4, 0, 1), record("a b", 2, 2), union(1, 0, 6)},
			"0 -2 -2 -2 -2 1 -2 1; -2 0 -2 -2 -2 2 -2 0; -2 -2 0 0 -2 -2 -2 -2; -2 -2 -2 -2 -2 -2 -2 -2; -2 -2 -2 1 0 0 -2 -2; -2 -2 -2 -2 -2 -2 -2 -2; 0 0 -2 -2 -2 1 0 0; -2 -2 -2 -2 -2 -2 -2 -2"},
		{"dyn", []api.GNode{plain(api.TDyn), plain(api.TInt), plain(api.TNull), union(2, 1), union(2, 0), union(0, 2, 1)},
			"0 0 0 0 0 0; 0 0 -2 1 1 0; 0 -2 0 0 0 0; -2 -2 -2 -2 -2 -2; -2 -2 -2 -2 -2 -2; -2 -2 -2 -2 -2 -2"},
		{"variables", []api.GNode{plain(api.TInt), plain(api.TNull), variable(0, 0), variable(0, 5), variable(1, 0), union(0, 1), union(1, 2), union(1, 3, 2), union(0, 4)},
			"0 -2 -2 -2 -2 0 -2 -2 0; -2 0 -2 -2 -2 1 0 0 -2; -1 -2 0 0 -2 -1 1 1 -1; -2 -2 -2 0 -2 -1 -2 1 -2; -1 -2 -2 -2 0 -1 -2 -2 1; -2 -2 -2 -2 -2 -2 -2 -2 -2; -2 -2 -2 -2 -2 -2 -2 -2 -2; -2 -2 -2 -2 -2 -2 -2 -2 -2; -2 -2 -2 -2 -2 -2 -2 -2 -2"},
		{"a variable that is its own bound", []api.GNode{plain(api.TInt), variable(0, 1), plain(api.TDyn), union(0, 2), union(1, 0), variable(0, 0), union(0, 5)},
			"0 -2 0 0 1 -2 0; -1 0 0 1 0 0 1; 0 0 0 0 0 0 0; -2 -2 -2 -2 -2 -2 -2; -2 -2 -2 -2 -2 -2 -2; -1 -2 0 1 -1 0 1; -2 -2 -2 -2 -2 -2 -2"},
		{"variables that only dyn lets through", []api.GNode{plain(api.TInt), plain(api.TDyn), variable(0, 1), variable(1, 1), union(0, 3)},
			"0 0 -2 -2 0; 0 0 0 0 0; -1 0 0 -1 -1; -1 0 -1 0 1; -2 -2 -2 -2 -2"},
	} {
		var l []string
		for a := range c.g {
			var row []string
			for b := range c.g {
				row = append(row, fmt.Sprint(sub.Pick(c.g, a, b)))
			}
			l = append(l, strings.Join(row, " "))
		}
		if got := strings.Join(l, "; "); got != c.want {
			t.Errorf("%s: %s", c.what, got)
		}
	}
}

func TestP8_2_Errors(t *testing.T) {
	for _, g := range noGraphs() {
		if sub.Pick(g, 0, 0) != -2 || sub.Pick(g, 1, 5) != -2 || sub.Pick(g, -1, 0) != -2 {
			t.Errorf("%.200s", show(g))
		}
	}
	for _, g := range [][]api.GNode{chapter(), rich(), nil, inRow(2000)} {
		for _, n := range noNodes(g) {
			for _, other := range []int{0, 2, 5, n, -1} {
				if sub.Pick(g, n, other) != -2 || sub.Pick(g, other, n) != -2 {
					t.Errorf("%d of %d nodes, %d", n, len(g), other)
				}
			}
		}
	}
}

func TestP8_3_All(t *testing.T) {
	for _, c := range ruleCases {
		for _, strict := range []bool{false, true} {
			l, e := sub.All(c.g, strict)
			if e != api.OK || !square(l, len(c.g)) {
				t.Fatalf("%s: %v, error %d", c.what, l, e)
			}
			want := c.may
			if strict {
				want = c.strict
			}
			if got := rows(len(c.g), func(a, b int) bool { return l[a][b] }); got != want {
				t.Errorf("%s: strictly %t: %s", c.what, strict, got)
			}
		}
	}
	if l, e := sub.All(nil, true); len(l) != 0 || e != api.OK {
		t.Errorf("nothing: %v, error %d", l, e)
	}
}

// square tells whether there are so many rows, each of so many.
func square(l [][]bool, n int) bool {
	return len(l) == n && !slices.ContainsFunc(l, func(row []bool) bool { return len(row) != n })
}

// wrong returns the error of graph.Check for a graph that is not valid.
func wrong(g []api.GNode) api.Errno {
	if len(g) > 2000 {
		return api.ErrLimit
	}
	return api.ErrArg
}

func TestP8_3_AllErrors(t *testing.T) {
	for _, g := range noGraphs() {
		for _, strict := range []bool{false, true} {
			if l, e := sub.All(g, strict); len(l) != 0 || e != wrong(g) {
				t.Errorf("%.200s: %d rows, error %d", show(g), len(l), e)
			}
		}
	}
}

func TestP8_3_Least(t *testing.T) {
	loop := []api.GNode{plain(api.TInt), variable(0, 1), variable(1, 3), variable(2, 2), plain(api.TDyn)}
	for _, c := range []struct {
		what string
		g    []api.GNode
		l    []int
		want int
		e    api.Errno
	}{
		{"the example", chapter(), []int{4, 3}, 4, api.OK},
		{"the last one", chapter(), []int{6, 3, 4}, 4, api.OK},
		{"one in the middle", chapter(), []int{6, 4, 3}, 4, api.OK},
		{"one alone", chapter(), []int{10}, 10, api.OK},
		{"the same one several times", chapter(), []int{5, 0, 5, 0, 0, 5}, 0, api.OK},
		{"none", chapter(), []int{0, 1}, 0, api.ErrArg},
		{"none, but for one that is not told", chapter(), []int{3, 8}, 0, api.ErrArg},
		{"no types", chapter(), nil, 0, api.ErrArg},
		{"no types of no graph", nil, nil, 0, api.ErrArg},
		{"an empty list", chapter(), []int{}, 0, api.ErrArg},
		{"dyn alone", chapter(), []int{2, 2}, 2, api.OK},
		{"dyn is no strict subtype", chapter(), []int{2, 0}, 0, api.ErrArg},
		{"nor a strict supertype", chapter(), []int{0, 2}, 0, api.ErrArg},
		{"the first one of those that are equal", inRow(5), []int{3, 1, 4}, 3, api.OK},
		{"the first one that will do", append(chapter(), plain(api.TInt), union(0, 11)), []int{5, 12, 11, 0}, 12, api.OK},
		{"unions that are equal", append(chapter(), union(1, 0)), []int{11, 5}, 11, api.OK},
		{"a union, and more", append(chapter(), tag("a"), union(11, 0, 1)), []int{12, 5}, 5, api.OK},
		{"a variable", chapter(), []int{3, 7}, 7, api.OK},
		{"a variable and another type", chapter(), []int{3, 7, 4}, 0, api.ErrArg},
		{"what is its own bound", loop, []int{4, 0, 2, 1}, 2, api.OK},
		{"records of themselves", chapter(), []int{8, 9}, 9, api.OK},
		{"records of themselves, one of which has a key more", chapter(), []int{8, 10}, 10, api.OK},
		{"no least one of three", chapter(), []int{8, 10, 9}, 0, api.ErrArg},
	} {
		if n, e := sub.Least(c.g, c.l); n != c.want || e != c.e {
			t.Errorf("%s: %d, error %d", c.what, n, e)
		}
	}
}

func TestP8_3_LeastErrors(t *testing.T) {
	for _, g := range noGraphs() {
		for _, l := range [][]int{{0}, nil, {-1}, {5000, 0}, {0, 1}} {
			if n, e := sub.Least(g, l); n != 0 || e != wrong(g) {
				t.Errorf("%.200s, %v: %d, error %d", show(g), l, n, e)
			}
		}
	}
	for _, g := range [][]api.GNode{chapter(), rich(), nil, inRow(2000)} {
		for _, n := range noNodes(g) {
			for _, l := range [][]int{{n}, {0, n}, {n, 0}, {0, 1, n}, {4, n, 3}, {n, n}} {
				if got, e := sub.Least(g, l); got != 0 || e != api.ErrRange {
					t.Errorf("%v of %d nodes: %d, error %d", l, len(g), got, e)
				}
			}
		}
	}
}

// roomy is a graph all of whose lists have unused capacity, which holds something.
func roomy() []api.GNode {
	g := append(append(rich(), union(1, 4)), tag("room"))
	for i := range g {
		g[i].Keys = append(slices.Clone(g[i].Keys), "room")[:len(g[i].Keys)]
		g[i].L = append(slices.Clone(g[i].L), 77)[:len(g[i].L)]
	}
	return g[:len(g)-1]
}

// whole returns a graph up to the capacity of its lists.
func whole(g []api.GNode) []api.GNode {
	g = slices.Clone(g[:cap(g)])
	for i, n := range g {
		g[i].Keys, g[i].L = n.Keys[:cap(n.Keys)], n.L[:cap(n.L)]
	}
	return g
}

func TestP8_4_Arguments(t *testing.T) {
	g, l := roomy(), append([]int{6, 5, 7, 5, 6}, 77)[:5]
	before, list := graph.Copy(whole(g)), slices.Clone(l[:cap(l)])
	for a := range g {
		for b := range g {
			sub.May(g, a, b)
			sub.Strict(g, a, b)
			sub.Pick(g, a, b)
		}
	}
	sub.All(g, false)
	sub.All(g, true)
	sub.Least(g, l)
	sub.Least(g, l[:0])
	if after := whole(g); !graph.Same(before, after) || !slices.Equal(l[:cap(l)], list) {
		t.Errorf("%v, %v\nnot\n%v, %v", after, l[:cap(l)], before, list)
	}
}

func copyRows(l [][]bool) (c [][]bool) {
	for _, row := range l {
		c = append(c, slices.Clone(row))
	}
	return c
}

func sameRows(l, c [][]bool) bool {
	return slices.EqualFunc(l, c, func(x, y []bool) bool { return slices.Equal(x, y) })
}

// What is done to a row, up to its capacity, touches no other one, of this result or of another one; nor does what is done to the graph later.
func TestP8_4_Results(t *testing.T) {
	g := roomy()
	first, _ := sub.All(g, true)
	second, _ := sub.All(g, true)
	want := copyRows(first)
	for i := range second {
		others := copyRows(second)
		row := second[i][:cap(second[i])]
		for k := range row {
			row[k] = !row[k]
		}
		others[i] = second[i]
		if !sameRows(second, others) {
			t.Errorf("other rows have changed with row %d", i)
		}
	}
	for i, n := range g {
		for k := range n.L[:cap(n.L)] {
			n.L[:cap(n.L)][k] = 1
		}
		g[i] = plain(api.TDyn)
	}
	if !sameRows(first, want) {
		t.Errorf("%v, not %v", first, want)
	}
}
