package canon_test

import (
	"fmt"
	"math"
	"slices"
	"strings"
	"testing"

	"armillary/api"
	"armillary/canon"
	"armillary/graph"
)

// Nodes of a graph, by their kinds.
func plain(kind int) api.GNode          { return api.GNode{Kind: kind} }
func tag(name string) api.GNode         { return api.GNode{Kind: api.TTag, Name: name} }
func union(l ...int) api.GNode          { return api.GNode{Kind: api.TUnion, L: l} }
func variable(num, bound int) api.GNode { return api.GNode{Kind: api.TVar, Num: num, L: []int{bound}} }

func record(keys string, l ...int) api.GNode {
	return api.GNode{Kind: api.TRec, Keys: strings.Fields(keys), L: l}
}

// inRow are so many plain nodes, and behind them others.
func inRow(n int, others ...api.GNode) []api.GNode {
	return append(slices.Repeat([]api.GNode{plain(api.TInt)}, n), others...)
}

func upTo(n int) (l []int) {
	for i := range n {
		l = append(l, i)
	}
	return l
}

// show writes the nodes of a graph, by their kinds.
func show(g []api.GNode) string {
	names := [...]string{api.TDyn: "dyn", api.TNull: "null", api.TBool: "bool", api.TInt: "int"}
	var l []string
	for _, n := range g {
		s := fmt.Sprint(n)
		switch {
		case api.TDyn <= n.Kind && n.Kind <= api.TInt:
			s = names[n.Kind]
		case n.Kind == api.TTag:
			s = "'" + n.Name
		case n.Kind == api.TVar:
			s = fmt.Sprintf("variable %d %v", n.Num, n.L)
		case n.Kind == api.TUnion:
			s = strings.ReplaceAll(strings.Trim(fmt.Sprint(n.L), "[]"), " ", "|")
		case n.Kind == api.TRec && len(n.Keys) == len(n.L):
			var fields []string
			for i, key := range n.Keys {
				fields = append(fields, fmt.Sprintf("%s: %d", key, n.L[i]))
			}
			s = "{" + strings.Join(fields, ", ") + "}"
		}
		l = append(l, s)
	}
	return strings.Join(l, "; ")
}

// of returns the canonical graph, and the positions, as text.
func of(t *testing.T, g []api.GNode, roots ...int) string {
	t.Helper()
	h, at, e := canon.Of(g, roots)
	if e != api.OK || len(at) != len(roots) {
		t.Fatalf("%s, %v: %v, error %d", show(g), roots, at, e)
	}
	return show(h) + " at " + strings.Trim(fmt.Sprint(at), "[]")
}

// chapter is the graph of the chapter's examples.
func chapter() []api.GNode {
	return []api.GNode{plain(api.TNull), record("a", 3), record("a", 4), union(0, 1), union(2, 0), union(1, 2)}
}

// rich is a valid graph with nodes of all kinds.
func rich() []api.GNode {
	return []api.GNode{
		plain(api.TDyn), plain(api.TNull), plain(api.TBool), plain(api.TInt), tag("a"), record(""),
		record("a b c", 6, 7, 8), union(1, 6), variable(0, 7), variable(15, 9), union(9, 8, 3), record("a", 10),
	}
}

func TestP7_1_Examples(t *testing.T) {
	if got := of(t, chapter(), 4, 5, 0); got != "1|2; null; {a: 0} at 0 2 1" {
		t.Error(got)
	}
}

func TestP7_1_Of(t *testing.T) {
	for _, c := range []struct {
		what  string
		g     []api.GNode
		roots []int
		want  string
	}{
		{"nothing", nil, nil, " at "},
		{"no roots", rich(), nil, " at "},
		{"roots that are equal", inRow(3), []int{2, 0, 1, 2}, "int at 0 0 0 0"},
		{"one node of a graph", rich(), []int{4}, "'a at 0"},
		{"roots in order", rich(), []int{3, 0, 2, 1, 2}, "int; dyn; bool; null at 0 1 2 3 2"},
		{"a node ahead of its children, each with everything below it", []api.GNode{record("a b", 1, 2), record("a b", 3, 4), record("c", 5), plain(api.TInt), plain(api.TBool), plain(api.TDyn)}, []int{0}, "{a: 1, b: 4}; {a: 2, b: 3}; int; bool; {c: 5}; dyn at 0"},
		{"a child that is reached twice", []api.GNode{record("a b", 1, 2), record("", []int{}...), record("b c", 1, 3), plain(api.TInt)}, []int{0, 3, 1}, "{a: 1, b: 2}; {}; {b: 1, c: 3}; int at 0 3 1"},
		{"children that are equal", []api.GNode{record("a b", 1, 2), plain(api.TInt), plain(api.TInt)}, []int{0}, "{a: 1, b: 1}; int at 0"},
		{"a root below another one", []api.GNode{plain(api.TInt), record("a", 0)}, []int{0, 1}, "int; {a: 0} at 0 1"},
		{"a root above another one", []api.GNode{plain(api.TInt), record("a", 0)}, []int{1, 0}, "{a: 1}; int at 0 1"},
		{"members in their order", []api.GNode{plain(api.TInt), plain(api.TBool), plain(api.TNull), plain(api.TDyn), tag("b"), tag("a"), union(0, 4, 2, 5, 3, 1)}, []int{6}, "1|2|3|4|5|6; dyn; null; bool; int; 'a; 'b at 0"},
		{"members that are equal", inRow(2, plain(api.TNull), union(1, 2, 0)), []int{3}, "1|2; null; int at 0"},
		{"a union of one", inRow(3, union(2, 0, 1)), []int{3, 1}, "int at 0 0"},
		{"a field of a union of one", inRow(2, union(0, 1), record("a", 2), record("a", 1)), []int{3, 4}, "{a: 1}; int at 0 0"},
		{"unions that are equal", append(inRow(2), plain(api.TNull), union(0, 2), union(2, 1), union(1, 2, 0)), []int{3, 4, 5}, "1|2; null; int at 0 0 0"},
		{"a union ahead of its members", []api.GNode{union(1, 2), record("a", 3), plain(api.TBool), plain(api.TInt)}, []int{0}, "1|2; bool; {a: 3}; int at 0"},
		{"a record of itself", []api.GNode{record("a", 0)}, []int{0}, "{a: 0} at 0"},
		{"records in a circle", []api.GNode{record("a", 1), record("a", 2), record("a", 0)}, []int{1, 0, 2}, "{a: 0} at 0 0 0"},
		{"a circle that is a half of another one", []api.GNode{record("a", 1), record("b", 0), record("a", 3), record("b", 4), record("a", 5), record("b", 2)}, []int{4, 1}, "{a: 1}; {b: 0} at 0 1"},
		{"a list, and one that is unrolled", []api.GNode{plain(api.TNull), record("t", 2), union(1, 0), record("t", 4), union(0, 5), record("t", 2), plain(api.TNull)}, []int{4, 2, 3, 1, 5, 6}, "1|2; null; {t: 0} at 0 0 2 2 2 1"},
		{"variables", []api.GNode{plain(api.TInt), variable(0, 0), variable(0, 0), variable(1, 0), plain(api.TDyn), variable(0, 4), union(5, 3, 2, 1)}, []int{6, 1, 2, 3, 5}, "1|3|5; variable 0 [2]; dyn; variable 0 [4]; int; variable 1 [4] at 0 3 3 5 1"},
		{"variables in circles", []api.GNode{variable(3, 1), variable(3, 0), variable(3, 2), record("a", 3), variable(3, 3)}, []int{0, 2, 1, 4}, "variable 3 [0]; variable 3 [2]; {a: 2} at 0 0 0 1"},
		{"records with equal keys", []api.GNode{plain(api.TInt), plain(api.TNull), record("a b", 0, 1), record("a b", 1, 0), record("a b", 0, 1), record("a c", 0, 1)}, []int{2, 3, 4, 5}, "{a: 1, b: 2}; int; null; {a: 2, b: 1}; {a: 1, c: 2} at 0 3 0 4"},
		{"nodes of all kinds", rich(), upTo(12), "dyn; null; bool; int; 'a; {}; {a: 6, b: 7, c: 8}; 1|6; variable 0 [7]; variable 15 [9]; 3|8|9; {a: 10} at 0 1 2 3 4 5 6 7 8 9 10 11"},
	} {
		if got := of(t, c.g, c.roots...); got != c.want {
			t.Errorf("%s: %s", c.what, got)
		}
	}
}

func TestP7_1_Errors(t *testing.T) {
	bad := []api.GNode{plain(api.TInt), union(0)}
	for _, c := range []struct {
		what  string
		g     []api.GNode
		roots []int
		want  api.Errno
	}{
		{"a graph that is not valid", bad, []int{0}, api.ErrArg},
		{"no roots of a graph that is not valid", bad, nil, api.ErrArg},
		{"roots that do not exist, of a graph that is not valid", bad, []int{-1, 9}, api.ErrArg},
		{"too many roots of a graph that is not valid", bad, make([]int, 4001), api.ErrArg},
		{"a graph that is too great", inRow(2001), []int{0}, api.ErrLimit},
		{"a graph that is too great and not valid", inRow(2000, union()), []int{-1}, api.ErrLimit},
		{"too many roots", inRow(1), make([]int, 4001), api.ErrLimit},
		{"too many roots that do not exist", inRow(1), slices.Repeat([]int{1}, 4001), api.ErrLimit},
		{"too many roots of nothing", nil, make([]int, 4001), api.ErrLimit},
		{"far too many roots", inRow(1), make([]int, 100000), api.ErrLimit},
		{"a root of nothing", nil, []int{0}, api.ErrRange},
		{"a root behind the last node", inRow(3), []int{3}, api.ErrRange},
		{"a root below 0", inRow(3), []int{-1}, api.ErrRange},
		{"a root that is far too great", inRow(3), []int{math.MaxInt}, api.ErrRange},
		{"a root that is far too small", inRow(3), []int{math.MinInt}, api.ErrRange},
		{"one root of many", inRow(3), append(make([]int, 3999), 3), api.ErrRange},
		{"the first root of many", inRow(3), append([]int{-1}, make([]int, 3999)...), api.ErrRange},
		{"as many roots as may be", inRow(3), make([]int, 4000), api.OK},
	} {
		h, at, e := canon.Of(c.g, c.roots)
		if e != c.want || e != api.OK && (len(h) > 0 || len(at) > 0) {
			t.Errorf("%s: %v, %v, error %d", c.what, h, at, e)
		}
		// the graphs that are valid here are no canonical ones
		if c.want == api.OK {
			c.want = api.ErrArg
		}
		if e := canon.Check(c.g, c.roots); e != c.want {
			t.Errorf("%s: error %d of Check", c.what, e)
		}
	}
}

func TestP7_2_Examples(t *testing.T) {
	g := chapter()
	if !canon.One(g, 3, 4) || !canon.One(g, 1, 2) || !canon.One(g, 5, 1) || canon.One(g, 0, 1) {
		t.Error("One")
	}
	if canon.Compare(g, 0, 1) != -1 || canon.Compare(g, 1, 0) != 1 || canon.Compare(g, 1, 2) != 0 || canon.Compare(g, 1, 3) != 0 {
		t.Error("Compare")
	}
}

// Without a graph, or nodes, nothing is equal, and nothing precedes.
func TestP7_2_None(t *testing.T) {
	ok := []api.GNode{plain(api.TNull), plain(api.TInt), union(0, 1), union(1, 0)}
	for _, c := range []struct {
		what string
		g    []api.GNode
		a, b int
	}{
		{"no nodes", nil, 0, 0},
		{"a behind", ok, 4, 0}, {"b behind", ok, 0, 4}, {"both behind", ok, 4, 4},
		{"a below 0", ok, -1, 0}, {"b below 0", ok, 0, -1}, {"both below 0", ok, -1, -1},
		{"far too great", ok, math.MaxInt, math.MaxInt}, {"far too small", ok, math.MinInt, math.MinInt},
		{"another node is not valid", append(ok, union(0)), 0, 0},
		{"different nodes, another one is not valid", append(ok, union(0)), 0, 1},
		{"the node is not valid", []api.GNode{{}}, 0, 0},
		{"too many nodes", inRow(2001), 0, 0},
		{"different ones of too many", inRow(2000, plain(api.TNull)), 2000, 0},
	} {
		if canon.One(c.g, c.a, c.b) {
			t.Errorf("%s: equal", c.what)
		}
		if got := canon.Compare(c.g, c.a, c.b); got != 0 {
			t.Errorf("%s: Compare %d", c.what, got)
		}
	}
	for _, c := range [][2]int{{2, 0}, {0, 2}, {2, 1}, {1, 2}, {2, 3}, {3, 2}, {2, 2}} {
		if got := canon.Compare(ok, c[0], c[1]); got != 0 {
			t.Errorf("a union, %v: %d", c, got)
		}
	}
}

// One of two types that are equal, or not: by what they differ in.
func TestP7_2_One(t *testing.T) {
	g := []api.GNode{
		0: plain(api.TInt), 1: plain(api.TNull), 2: plain(api.TInt),
		3: union(0, 1), 4: union(1, 2), 5: union(0, 2), 6: union(0, 1, 2),
		7: record("a", 0), 8: record("a", 2), 9: record("a", 5), 10: record("a", 3), 11: record("a", 6), 12: record("b", 0), 13: record("a b", 0, 1), 14: record("a b", 1, 0),
		15: record(""), 16: record(""), 17: tag("a"), 18: tag("a"), 19: tag("b"),
		20: variable(0, 0), 21: variable(0, 5), 22: variable(1, 0), 23: variable(0, 3),
		24: union(7, 9), 25: union(7, 9, 12), 26: union(12, 8), 27: record("a", 28), 28: union(27, 1), 29: record("a", 30), 30: union(31, 1), 31: record("a", 32), 32: union(1, 29),
		33: record("a", 34), 34: union(33, 1, 17), 35: plain(api.TDyn), 36: union(35, 0),
	}
	if e := graph.Check(g); e != api.OK {
		t.Fatalf("error %d", e)
	}
	groups := [][]int{{0, 2, 5}, {1}, {3, 4, 6}, {7, 8, 9, 24}, {10, 11}, {12}, {13}, {14}, {15, 16}, {17, 18}, {19}, {20, 21}, {22}, {23}, {25, 26}, {27, 29, 31}, {28, 30, 32}, {33}, {34}, {35}, {36}}
	group := make([]int, len(g))
	for i, l := range groups {
		for _, n := range l {
			group[n] = i
		}
	}
	for a := range g {
		for b := range g {
			if got := canon.One(g, a, b); got != (group[a] == group[b]) {
				t.Errorf("%d and %d: %t", a, b, got)
			}
		}
	}
}

// rising are types, none of them a union, each of which precedes the next one.
func rising() (g []api.GNode, l []int) {
	g = []api.GNode{0: plain(api.TDyn), 1: plain(api.TNull), 2: plain(api.TBool), 3: plain(api.TInt), 4: union(1, 2), 5: union(3, 1), 6: union(2, 3), 7: union(3, 2, 1)}
	add := func(n api.GNode) int {
		g = append(g, n)
		return len(g) - 1
	}
	next := func(n api.GNode) { l = append(l, add(n)) }
	x := func(n int) int { return add(record("x", n)) }
	l = []int{0, 1, 2, 3}
	for _, name := range strings.Fields("a a0 a1 a10 a2 a_ aa ab b int") {
		next(tag(name))
	}
	// records: the number of keys, the keys, then the fields
	next(record(""))
	next(record("a", 0))
	next(record("a", 1))
	next(record("a", 4)) // of members that are alike so far the shorter list is less
	next(record("a", 7))
	next(record("a", 5))
	next(record("a", 2))
	next(record("a", 6))
	next(record("a", 3))
	next(record("a", add(tag("z"))))
	// by a field of a field, which differs later than all that is ahead
	next(record("a", x(0)))
	next(record("a", add(union(x(1), x(3), add(record("x", 1))))))
	next(record("a", add(union(x(3), x(2)))))
	next(record("a", x(3)))
	next(record("a", x(x(1))))
	next(record("a", add(variable(0, 0))))
	next(record("a0", 0))
	next(record("a_", 0))
	next(record("b", 0))
	next(record("b", 3))
	next(record("a b", 0, 3))
	next(record("a b", 1, 0))
	next(record("a b", 1, 1))
	next(record("a b", 3, 0))
	// b differs earlier than a
	next(record("a b", x(3), 1))
	next(record("a b", x(2), 2))
	next(record("a b", add(union(x(3), x(2))), 3)) // its members are alike where b differs, and count once
	next(record("a b", x(3), add(tag("a"))))
	next(record("a b", x(1), add(tag("b"))))
	next(record("a c", 0, 0))
	next(record("b c", 0, 0))
	next(record("a b c", 0, 0, 0))
	for num := range 16 {
		next(variable(num, 0))
		next(variable(num, 1))
		next(variable(num, 4))
		next(variable(num, 3))
	}
	return g, l
}

func TestP7_2_Compare(t *testing.T) {
	g, l := rising()
	if e := graph.Check(g); e != api.OK {
		t.Fatalf("error %d", e)
	}
	for i, a := range l {
		for j, b := range l {
			want := 0
			if i < j {
				want = -1
			} else if i > j {
				want = 1
			}
			if got := canon.Compare(g, a, b); got != want {
				t.Errorf("%v and %v: %d", g[a], g[b], got)
			}
		}
	}
}

// A canonical union has its members in their order, whatever order they had.
func TestP7_2_MembersInOrder(t *testing.T) {
	g, l := rising()
	for i := range l {
		members := slices.Concat(l[i:], l[:i])
		slices.Reverse(members)
		n := len(g)
		h, at, e := canon.Of(append(g, union(members...)), append([]int{n}, l...))
		if e != api.OK || !slices.Equal(h[at[0]].L, at[1:]) {
			t.Fatalf("%v, %v, error %d", h[at[0]].L, at[1:], e)
		}
	}
}

func TestP7_3_Check(t *testing.T) {
	list := []api.GNode{union(1, 2), plain(api.TNull), record("t", 0)}
	for _, c := range []struct {
		what  string
		g     []api.GNode
		roots []int
		want  api.Errno
	}{
		{"nothing", nil, nil, api.OK},
		{"empty lists", []api.GNode{{Kind: api.TInt, Keys: []string{}, L: []int{}}}, []int{0}, api.OK},
		{"a list", list, []int{0}, api.OK},
		{"a list by its members", list, []int{0, 2, 1, 0}, api.OK},
		{"nodes of all kinds, their unions in order", append(rich()[:10:10], union(3, 8, 9), record("a", 10)), upTo(12), api.OK},
		{"roots in another order", list, []int{2, 0}, api.ErrArg},
		{"a root that is reached later", list, []int{1, 0}, api.ErrArg},
		{"no roots", list, nil, api.ErrArg},
		{"not all reached", list, []int{1}, api.ErrArg},
		{"members in another order", []api.GNode{union(2, 1), plain(api.TNull), record("t", 0)}, []int{0}, api.ErrArg},
		{"members numbered in another order", []api.GNode{union(2, 1), record("t", 0), plain(api.TNull)}, []int{0}, api.ErrArg},
		{"members that are equal", []api.GNode{union(1, 2), plain(api.TNull), plain(api.TNull)}, []int{0}, api.ErrArg},
		{"nodes that are equal", inRow(2), []int{0, 1}, api.ErrArg},
		{"a circle of two that are equal", []api.GNode{record("a", 1), record("a", 0)}, []int{0, 1}, api.ErrArg},
		{"a node behind all", append(slices.Clone(list), plain(api.TInt)), []int{0}, api.ErrArg},
		{"children ahead of their node", []api.GNode{plain(api.TInt), record("a", 0)}, []int{1}, api.ErrArg},
		{"nodes of all kinds, a union out of order", rich(), upTo(12), api.ErrArg},
		{"a graph that is not valid", append(slices.Clone(list), union(0)), []int{0}, api.ErrArg},
		{"a root that does not exist", list, []int{0, 3}, api.ErrRange},
		{"too many roots", list, make([]int, 4001), api.ErrLimit},
		{"as many roots as may be", list, make([]int, 4000), api.OK},
		{"too many nodes", inRow(2001), []int{0}, api.ErrLimit},
	} {
		if e := canon.Check(c.g, c.roots); e != c.want {
			t.Errorf("%s: error %d", c.what, e)
		}
	}
}

func TestP7_3_Join(t *testing.T) {
	a, b := []api.GNode{union(1, 2), plain(api.TNull), record("t", 0)}, []api.GNode{record("a b", 1, 0), plain(api.TInt), variable(7, 0)}
	for _, c := range []struct {
		g, h []api.GNode
		want string
	}{
		{nil, nil, ""},
		{a, nil, show(a)},
		{nil, a, show(a)},
		{a, b, "1|2; null; {t: 0}; {a: 4, b: 3}; int; variable 7 [3]"},
		{b, a, "{a: 1, b: 0}; int; variable 7 [0]; 4|5; null; {t: 3}"},
		{a, a, "1|2; null; {t: 0}; 4|5; null; {t: 3}"},
		// no graph must be valid
		{inRow(1), []api.GNode{union(-1, 77), {Kind: -5}}, "int; 0|78; " + show([]api.GNode{{Kind: -5}})},
	} {
		if got := show(canon.Join(c.g, c.h)); got != c.want {
			t.Errorf("%s and %s: %s", show(c.g), show(c.h), got)
		}
	}
	if g := canon.Join(inRow(3000), inRow(3000, record("a", 3000))); len(g) != 6001 || g[6000].L[0] != 6000 {
		t.Error("great graphs")
	}
	odd := api.GNode{Kind: -5, Num: 7, Name: "?", Keys: []string{"", "b"}, L: []int{math.MaxInt - 1}}
	moved := odd
	moved.L = []int{math.MaxInt}
	if g := canon.Join([]api.GNode{odd}, []api.GNode{odd}); !graph.Same(g, []api.GNode{odd, moved}) {
		t.Errorf("%v", g)
	}
	canon.Join(inRow(3), []api.GNode{union(math.MaxInt, math.MinInt)})
}

// spoil changes everything in a graph, up to the capacity of its lists.
func spoil(g []api.GNode) {
	for i, n := range g {
		spoilLists(n.Keys, n.L)
		g[i] = api.GNode{Kind: -7, Num: -7, Name: "spoilt"}
	}
	for i := range g[:cap(g)] {
		g[:cap(g)][i].Kind = -7
	}
}

func spoilLists(keys []string, l []int) {
	for i := range keys[:cap(keys)] {
		keys[:cap(keys)][i] = "spoilt"
	}
	for i := range l[:cap(l)] {
		l[:cap(l)][i] = -7
	}
}

// roomy is a graph all of whose lists have unused capacity, which holds something.
func roomy() []api.GNode {
	g := append(append(rich(), union(1, 4)), tag("room"))
	for i := range g {
		g[i].Keys = append(slices.Clone(g[i].Keys), "room")[:len(g[i].Keys)]
		g[i].L = append(slices.Clone(g[i].L), 77)[:len(g[i].L)]
	}
	return g[:len(g)-1]
}

// whole returns a graph up to the capacity of its lists.
func whole(g []api.GNode) []api.GNode {
	g = slices.Clone(g[:cap(g)])
	for i, n := range g {
		g[i].Keys, g[i].L = n.Keys[:cap(n.Keys)], n.L[:cap(n.L)]
	}
	return g
}

func TestP7_4_Arguments(t *testing.T) {
	g, roots := roomy(), append(upTo(12), 77)[:12]
	before, all := graph.Copy(whole(g)), slices.Clone(roots[:cap(roots)])
	h, at, _ := canon.Of(g, roots)
	canon.One(g, 7, 12)
	canon.Compare(g, 8, 9)
	canon.Check(g, roots)
	spoil(canon.Join(g, g))
	spoil(canon.Join(g, nil))
	spoil(canon.Join(nil, g))
	spoil(h)
	spoilLists(nil, at)
	if after := whole(g); !graph.Same(before, after) || !slices.Equal(roots[:cap(roots)], all) {
		t.Errorf("%v\nnot\n%v", after, before)
	}
}

// grow changes each list of a graph behind its end.
func grow(g []api.GNode) {
	for i, n := range g {
		spoilLists(append(n.Keys, "more")[len(n.Keys):], append(n.L, 7)[len(n.L):])
		g[i].Keys, g[i].L = slices.Clip(n.Keys), slices.Clip(n.L)
	}
}

// What is done to an argument later does not touch a result, nor do the lists of one result touch each other.
func TestP7_4_Results(t *testing.T) {
	g, roots := roomy(), upTo(13)
	h, at, _ := canon.Of(g, roots)
	both, one, two := canon.Join(g, g), canon.Join(g, nil), canon.Join(nil, g)
	want, places, wantBoth, wantOne := graph.Copy(h), slices.Clone(at), graph.Copy(both), graph.Copy(g)
	spoil(g)
	spoilLists(nil, roots)
	for _, l := range [][]api.GNode{h, both, one, two} {
		grow(l)
	}
	if !graph.Same(h, want) || !slices.Equal(at, places) {
		t.Errorf("Of: %v, %v", h, at)
	}
	if !graph.Same(both, wantBoth) || !graph.Same(one, wantOne) || !graph.Same(two, wantOne) {
		t.Errorf("Join: %v, %v, %v", both, one, two)
	}
	// records whose keys are one list, or alike, have lists of their own
	keys := []string{"a", "b"}
	h, _, _ = canon.Of([]api.GNode{{Kind: api.TRec, Keys: keys, L: []int{1, 1}}, plain(api.TInt), {Kind: api.TRec, Keys: keys, L: []int{1, 0}}, record("a b", 0, 0)}, upTo(4))
	spoilLists(h[0].Keys, h[0].L)
	if show(h[1:]) != "int; {a: 1, b: 0}; {a: 0, b: 0}" {
		t.Error(show(h))
	}
}
