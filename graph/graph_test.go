package graph_test

import (
	"fmt"
	"math"
	"reflect"
	"slices"
	"strconv"
	"strings"
	"testing"

	"armillary/api"
	"armillary/graph"
)

// show writes the nodes of a graph, by their kinds.
func show(g []api.GNode) string {
	names := [...]string{api.TDyn: "dyn", api.TNull: "null", api.TBool: "bool", api.TInt: "int"}
	var l []string
	for _, n := range g {
		s := fmt.Sprint(n)
		switch {
		case api.TDyn <= n.Kind && n.Kind <= api.TInt:
			s = names[n.Kind]
		case n.Kind == api.TTag:
			s = "'" + n.Name
		case n.Kind == api.TVar:
			s = fmt.Sprintf("variable %d %v", n.Num, n.L)
		case n.Kind == api.TUnion:
			s = strings.ReplaceAll(strings.Trim(fmt.Sprint(n.L), "[]"), " ", "|")
		case n.Kind == api.TRec && len(n.Keys) == len(n.L):
			var fields []string
			for i, key := range n.Keys {
				fields = append(fields, fmt.Sprintf("%s: %d", key, n.L[i]))
			}
			s = "{" + strings.Join(fields, ", ") + "}"
		}
		l = append(l, s)
	}
	return strings.Join(l, "; ")
}

// Nodes of a graph, by their kinds.
func plain(kind int) api.GNode          { return api.GNode{Kind: kind} }
func tag(name string) api.GNode         { return api.GNode{Kind: api.TTag, Name: name} }
func union(l ...int) api.GNode          { return api.GNode{Kind: api.TUnion, L: l} }
func variable(num, bound int) api.GNode { return api.GNode{Kind: api.TVar, Num: num, L: []int{bound}} }

func record(keys string, l ...int) api.GNode {
	return api.GNode{Kind: api.TRec, Keys: strings.Fields(keys), L: l}
}

// rich is a valid graph with nodes of all kinds.
func rich() []api.GNode {
	return []api.GNode{
		plain(api.TDyn), plain(api.TNull), plain(api.TBool), plain(api.TInt), tag("a"), record(""),
		record("a b c", 6, 7, 8), union(1, 6), variable(0, 7), variable(15, 9), union(9, 8, 3), record("a", 10),
	}
}

// inRow are so many plain nodes, and behind them others.
func inRow(n int, others ...api.GNode) []api.GNode {
	return append(slices.Repeat([]api.GNode{plain(api.TInt)}, n), others...)
}

func upTo(n int) (l []int) {
	for i := range n {
		l = append(l, i)
	}
	return l
}

func keysUpTo(n int) string {
	var l []string
	for i := range n {
		l = append(l, fmt.Sprintf("k%02d", i))
	}
	return strings.Join(l, " ")
}

func TestP6_1_CheckValid(t *testing.T) {
	empty := api.GNode{Kind: api.TInt, Keys: []string{}, L: []int{}}
	for _, c := range []struct {
		what string
		g    []api.GNode
	}{
		{"nothing", nil},
		{"an empty list", []api.GNode{}},
		{"nodes of all kinds", rich()},
		{"empty lists", []api.GNode{empty}},
		{"a tag of 16 bytes", []api.GNode{tag("a23456789_123456")}},
		{"tags that are keywords", []api.GNode{tag("module"), tag("int"), tag("rec"), tag("is")}},
		{"a record of itself", []api.GNode{record("a", 0)}},
		{"a record of one type", []api.GNode{plain(api.TInt), record("a b", 0, 0)}},
		{"keys whose bytes rise", []api.GNode{record("a a0 a1 a10 a_ aa b", 0, 0, 0, 0, 0, 0, 0)}},
		{"a key of 16 bytes", []api.GNode{record("a23456789_123456", 0)}},
		{"16 keys", []api.GNode{record(keysUpTo(16), make([]int, 16)...)}},
		{"a variable that is its own bound", []api.GNode{variable(0, 0)}},
		{"variables in a circle", []api.GNode{variable(0, 1), variable(0, 0)}},
		{"a bound that is a union", []api.GNode{union(1, 2), plain(api.TInt), variable(3, 0)}},
		{"a union of equal types", inRow(2, union(1, 0))},
		{"2000 nodes", inRow(2000)},
		{"a union of 1999 nodes", inRow(1999, union(upTo(1999)...))},
	} {
		if e := graph.Check(c.g); e != api.OK {
			t.Errorf("%s: error %d", c.what, e)
		}
	}
}

func TestP6_1_CheckLimit(t *testing.T) {
	for _, g := range [][]api.GNode{inRow(2001), inRow(2000, plain(0)), inRow(2000, union(0)), inRow(5000), make([]api.GNode, 2001)} {
		if e := graph.Check(g); e != api.ErrLimit {
			t.Errorf("%d nodes: error %d", len(g), e)
		}
	}
	if e := graph.Check(make([]api.GNode, 2000)); e != api.ErrArg {
		t.Errorf("2000 zero nodes: error %d", e)
	}
}

// Nodes that are not valid behind those of rich.
func TestP6_1_CheckNode(t *testing.T) {
	here := len(rich())
	bad := []api.GNode{
		// kinds
		plain(0), plain(-1), plain(api.TName), plain(10), plain(api.EInt), plain(api.EAs), plain(math.MaxInt), plain(math.MinInt),
		{Kind: api.TName, Name: "T"}, {Kind: 0, L: []int{0}},
		// tags
		tag(""), tag("A"), tag("aB"), tag("1"), tag("_"), tag("'a"), tag("a b"), tag("a "), tag("a23456789_1234567"), tag("ä"), tag("a\n"), tag("a\x00"),
		tag(strings.Repeat("a", 70000)),
		// keys
		record("b a", 0, 0), record("a a", 0, 0), record("a b b", 0, 0, 0), record("a c b", 0, 0, 0), record("a2 a10", 0, 0), record("A", 0), record("int", 0), record("a is", 0, 0), record("a23456789_1234567", 0), record("1", 0), record("_a", 0),
		{Kind: api.TRec, Keys: []string{""}, L: []int{0}}, {Kind: api.TRec, Keys: []string{"a", "b "}, L: []int{0, 0}}, {Kind: api.TRec, Keys: []string{"a.b"}, L: []int{0}},
		record(keysUpTo(17), make([]int, 17)...), record(keysUpTo(2000), make([]int, 2000)...),
		// fields
		record("a"), record("a b", 0), record("a", 0, 0), record("", 0), record("a", -1), record("a", here+1), record("a b", 0, here+1), record("a", math.MaxInt), record("a", math.MinInt),
		// members
		union(), union(0), union(0, 0), union(0, 1, 0), union(0, 1, 2, 2), union(0, -1), union(-1, 0), union(0, here+1), union(math.MaxInt, 0), union(math.MinInt, 0), union(0, 7), union(7, 10), union(0, here), union(here, 0), union(slices.Repeat([]int{0, 1}, 5000)...),
		// variables
		variable(-1, 0), variable(16, 0), variable(math.MaxInt, 0), variable(math.MinInt, 0), variable(0, -1), variable(0, here+1), variable(0, math.MaxInt), {Kind: api.TVar}, {Kind: api.TVar, L: []int{0, 1}}, {Kind: api.TVar, L: []int{0, 0}},
	}
	for _, n := range bad {
		if e := graph.Check(append(rich(), n)); e != api.ErrArg {
			t.Errorf("%.200v: error %d", n, e)
		}
	}
}

// Each field that a kind does not list must be zero.
func TestP6_1_CheckFields(t *testing.T) {
	fields := map[string]func(n *api.GNode){
		"num": func(n *api.GNode) { n.Num = 1 }, "below 0": func(n *api.GNode) { n.Num = -1 }, "name": func(n *api.GNode) { n.Name = "a" },
		"keys": func(n *api.GNode) { n.Keys = []string{"a"} }, "l": func(n *api.GNode) { n.L = []int{0} },
	}
	listed := map[int]string{api.TTag: "name", api.TRec: "keys l", api.TUnion: "l", api.TVar: "num l"}
	for i, n := range rich() {
		for what, set := range fields {
			if strings.Contains(listed[n.Kind], what) {
				continue
			}
			g := rich()
			set(&g[i])
			if e := graph.Check(g); e != api.ErrArg {
				t.Errorf("%s of %v: error %d", what, g[i], e)
			}
		}
	}
}

// One node that is not valid, wherever it is.
func TestP6_1_CheckAll(t *testing.T) {
	for i := range 2000 {
		g := inRow(2000)
		g[i] = union(i)
		if e := graph.Check(g); e != api.ErrArg {
			t.Fatalf("%d: error %d", i, e)
		}
	}
}

// changes are graphs that differ from rich in one field each, or in their length.
func changes() (l [][]api.GNode) {
	change := func(do func(n *api.GNode), i int) {
		g := rich()
		do(&g[i])
		l = append(l, g)
	}
	for i, n := range rich() {
		change(func(n *api.GNode) { n.Kind++ }, i)
		change(func(n *api.GNode) { n.Num++ }, i)
		change(func(n *api.GNode) { n.Name += "x" }, i)
		change(func(n *api.GNode) { n.Keys = append(n.Keys, "x") }, i)
		change(func(n *api.GNode) { n.L = append(n.L, 0) }, i)
		for j := range n.Keys {
			change(func(n *api.GNode) { n.Keys[j] += "x" }, i)
		}
		for j := range n.L {
			change(func(n *api.GNode) { n.L[j]++ }, i)
		}
		if len(n.L) > 1 {
			change(func(n *api.GNode) { slices.Reverse(n.L) }, i)
		}
		if len(n.L) > 0 {
			change(func(n *api.GNode) { n.L = n.L[1:] }, i)
		}
		l = append(l, slices.Delete(rich(), i, i+1), rich()[:i], slices.Insert(rich(), i, api.GNode{}))
	}
	return l
}

func TestP6_1_Same(t *testing.T) {
	g := rich()
	if !graph.Same(g, rich()) || !graph.Same(g, g) {
		t.Error("equal graphs are not the same")
	}
	for i, h := range changes() {
		if graph.Same(g, h) || graph.Same(h, g) || !graph.Same(h, h) {
			t.Errorf("%d: %v", i, h)
		}
	}
	for _, c := range []struct {
		a, b []api.GNode
		same bool
	}{
		{nil, nil, true},
		{nil, []api.GNode{}, true},
		{nil, []api.GNode{{}}, false},
		{[]api.GNode{{Keys: []string{}, L: []int{}}}, []api.GNode{{}}, true},
		{[]api.GNode{{Keys: []string{""}}}, []api.GNode{{}}, false},
		{[]api.GNode{{L: []int{0}}}, []api.GNode{{}}, false},
		// no graph must be valid
		{[]api.GNode{{Kind: -5, Num: 7, Name: "?", L: []int{-1}}}, []api.GNode{{Kind: -5, Num: 7, Name: "?", L: []int{-1}}}, true},
		{inRow(3000), inRow(3000), true},
		{inRow(3000), inRow(3001), false},
	} {
		if graph.Same(c.a, c.b) != c.same || graph.Same(c.b, c.a) != c.same {
			t.Errorf("%.200v and %.200v: not %t", c.a, c.b, c.same)
		}
	}
}

func TestP6_1_Copy(t *testing.T) {
	for i, g := range append(changes(), rich(), nil, []api.GNode{}, []api.GNode{{Kind: -5, Num: 7, Name: "?", Keys: []string{""}, L: []int{-1}}}, inRow(3000)) {
		h := graph.Copy(g)
		if !graph.Same(g, h) {
			t.Errorf("%d: %v, not %v", i, h, g)
		}
	}
}

func TestP6_1_Members(t *testing.T) {
	g := append(rich(), api.GNode{}, api.GNode{Kind: api.TUnion}, union(-1, 99, 13))
	for n, want := range map[int]string{
		0: "0", 1: "1", 4: "4", 5: "5", 6: "6", 7: "1 6", 8: "8", 9: "9", 10: "9 8 3", 11: "11", 12: "12", 13: "", 14: "-1 99 13",
		15: "", 16: "", -1: "", math.MaxInt: "", math.MinInt: "",
	} {
		if got := strings.Trim(fmt.Sprint(graph.Members(g, n)), "[]"); got != want {
			t.Errorf("%d: %s", n, got)
		}
	}
	if l := graph.Members(nil, 0); len(l) > 0 {
		t.Errorf("of nothing: %v", l)
	}
}

// spoil changes everything in a graph, up to the capacity of its lists.
func spoil(g []api.GNode) {
	for i, n := range g {
		spoilLists(n.Keys, n.L)
		g[i] = api.GNode{Kind: -7, Num: -7, Name: "spoilt"}
	}
	for i := range g[:cap(g)] {
		g[:cap(g)][i].Kind = -7
	}
}

func spoilLists(keys []string, l []int) {
	for i := range keys[:cap(keys)] {
		keys[:cap(keys)][i] = "spoilt"
	}
	for i := range l[:cap(l)] {
		l[:cap(l)][i] = -7
	}
}

// roomy is a graph all of whose lists have unused capacity, which holds something.
func roomy() []api.GNode {
	g := append(rich(), tag("room"))
	for i := range g {
		g[i].Keys = append(slices.Clone(g[i].Keys), "room")[:len(g[i].Keys)]
		g[i].L = append(slices.Clone(g[i].L), 77)[:len(g[i].L)]
	}
	return g[:len(g)-1]
}

// whole returns a graph up to the capacity of its lists.
func whole(g []api.GNode) []api.GNode {
	g = slices.Clone(g[:cap(g)])
	for i, n := range g {
		g[i].Keys, g[i].L = n.Keys[:cap(n.Keys)], n.L[:cap(n.L)]
	}
	return g
}

func TestP6_4_Arguments(t *testing.T) {
	g := roomy()
	// the room beside a list may be greater than what was put there
	before := graph.Copy(whole(g))
	graph.Check(g)
	graph.Same(g, rich())
	graph.Same(rich(), g)
	spoil(graph.Copy(g))
	for n := range g {
		spoilLists(nil, graph.Members(g, n))
	}
	if after := whole(g); !graph.Same(before, after) {
		t.Errorf("%v\nnot\n%v", after, before)
	}
}

// What is done to an argument later does not touch a result, nor do the lists of one result touch each other.
func TestP6_4_Results(t *testing.T) {
	g := roomy()
	h := graph.Copy(g)
	for i := range h {
		h[i].Keys = append(h[i].Keys, "more"+strconv.Itoa(i))
		h[i].L = append(h[i].L, i)
	}
	for i, n := range rich() {
		n.Keys, n.L = append(n.Keys, "more"+strconv.Itoa(i)), append(n.L, i)
		if !reflect.DeepEqual(h[i].Keys, n.Keys) || !reflect.DeepEqual(h[i].L, n.L) {
			t.Errorf("%d: %v, not %v", i, h[i], n)
		}
	}
	h, l := graph.Copy(g), graph.Members(g, 10)
	spoil(g)
	if !graph.Same(h, rich()) || !slices.Equal(l, []int{9, 8, 3}) {
		t.Errorf("%v, %v", h, l)
	}
}
