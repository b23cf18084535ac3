package infer_test

import (
	"fmt"
	"math"
	"slices"
	"strings"
	"testing"

	"armillary/api"
	"armillary/graph"
	"armillary/infer"
)

// Nodes of a graph, by their kinds.
func plain(kind int) api.GNode          { return api.GNode{Kind: kind} }
func tag(name string) api.GNode         { return api.GNode{Kind: api.TTag, Name: name} }
func union(l ...int) api.GNode          { return api.GNode{Kind: api.TUnion, L: l} }
func variable(num, bound int) api.GNode { return api.GNode{Kind: api.TVar, Num: num, L: []int{bound}} }

func record(keys string, l ...int) api.GNode {
	return api.GNode{Kind: api.TRec, Keys: strings.Fields(keys), L: l}
}

// inRow are so many plain nodes, and behind them others.
func inRow(n int, others ...api.GNode) []api.GNode {
	return append(slices.Repeat([]api.GNode{plain(api.TInt)}, n), others...)
}

func upTo(n int) (l []int) {
	for i := range n {
		l = append(l, i)
	}
	return l
}

// show writes nodes of a graph, by their kinds; the first one has a number.
func show(g []api.GNode, first int) string {
	names := [...]string{api.TDyn: "dyn", api.TNull: "null", api.TBool: "bool", api.TInt: "int"}
	var l []string
	for i, n := range g {
		s := fmt.Sprint(n)
		switch {
		case api.TDyn <= n.Kind && n.Kind <= api.TInt:
			s = names[n.Kind]
		case n.Kind == api.TTag:
			s = "'" + n.Name
		case n.Kind == api.TVar:
			s = fmt.Sprintf("variable %d %v", n.Num, n.L)
		case n.Kind == api.TUnion:
			s = strings.ReplaceAll(strings.Trim(fmt.Sprint(n.L), "[]"), " ", "|")
		case n.Kind == api.TRec && len(n.Keys) == len(n.L):
			var fields []string
			for k, key := range n.Keys {
				fields = append(fields, fmt.Sprintf("%s: %d", key, n.L[k]))
			}
			s = "{" + strings.Join(fields, ", ") + "}"
		}
		l = append(l, fmt.Sprintf("%d %s", first+i, s))
	}
	return strings.Join(l, "; ")
}

func listed(l []int) string { return strings.Trim(fmt.Sprint(l), "[]") }

// told writes an answer of Of: the type arguments, and the nodes that are new; or its error. It tells, too, what in it is not as the chapter asks for of all answers.
func told(g, h []api.GNode, l []int, e api.Errno) string {
	if e != api.OK {
		if len(h) != 0 || len(l) != 0 {
			return fmt.Sprintf("error %d, but %d nodes, %v", e, len(h), l)
		}
		return fmt.Sprintf("error %d", e)
	}
	if len(h) < len(g) || !graph.Same(h[:len(g)], g) {
		return fmt.Sprintf("%s has not grown: %s", show(g, 0), show(h, 0))
	}
	if e := graph.Check(h); e != api.OK {
		return fmt.Sprintf("not valid: %s", show(h, 0))
	}
	s := listed(l)
	if len(h) > len(g) {
		s += ": " + show(h[len(g):], len(g))
	}
	return s
}

func of(g []api.GNode, bounds, patterns, types []int) string {
	h, l, e := infer.Of(g, bounds, patterns, types)
	return told(g, h, l, e)
}

func given(g []api.GNode, patterns, types []int, k int) string {
	l, e := infer.Given(g, patterns, types, k)
	if e == api.OK {
		return listed(l)
	}
	if len(l) != 0 {
		return fmt.Sprintf("error %d, but %v", e, l)
	}
	return fmt.Sprintf("error %d", e)
}

// assigned writes what is assigned to each Num, if anything is; or the error, which must be that of all.
func assigned(g []api.GNode, patterns, types []int) string {
	var l []string
	for k := range api.MaxParts {
		if s := given(g, patterns, types, k); s != "" {
			l = append(l, fmt.Sprintf("%d: %s", k, s))
		}
	}
	if first := given(g, patterns, types, 0); strings.HasPrefix(first, "error") {
		if len(l) != api.MaxParts || slices.ContainsFunc(l, func(s string) bool { return !strings.HasSuffix(s, ": "+first) }) {
			return "not all the same: " + strings.Join(l, "; ")
		}
		return first
	}
	return strings.Join(l, "; ")
}

// chapter is the graph of the chapter's examples.
func chapter() []api.GNode {
	return []api.GNode{
		plain(api.TInt), plain(api.TNull), variable(0, 6), union(1, 2), union(0, 1), record("a b", 2, 2), plain(api.TDyn), record("a b", 0, 1), variable(1, 6), union(2, 8),
	}
}

// Nodes of the graphs of with; others lie behind them, from 10 on.
const (
	dyn = iota
	null
	boolean
	integer
	tagX
	tagY
	varA // variable 0
	varB // variable 1
	varC // variable 2, bound by what lies at 10
	varD // variable 0, like varA
)

// free is a bound for varC where none is asked for.
var free = plain(api.TDyn)

// with is a graph of simple types and variables, and others.
func with(others ...api.GNode) []api.GNode {
	return append([]api.GNode{
		plain(api.TDyn), plain(api.TNull), plain(api.TBool), plain(api.TInt), tag("x"), tag("y"), variable(0, dyn), variable(1, dyn), variable(2, 10), variable(0, dyn),
	}, others...)
}

// noGraphs are graphs that are not valid.
func noGraphs() [][]api.GNode {
	return [][]api.GNode{
		append(chapter(), union(0)), append(chapter(), plain(0)), append(chapter(), plain(api.TName)), append(chapter(), record("a")), append(chapter(), record("b a", 0, 0)),
		append(chapter(), union(0, 3)), append(chapter(), union(0, 0)), append(chapter(), variable(16, 0)), append(chapter(), variable(-1, 0)), append(chapter(), variable(0, 99)), append(chapter(), record("a", -1)), append(chapter(), tag("A")),
		inRow(2001), make([]api.GNode, 2001),
	}
}

// wrong is the error of graph.Check for a graph that is not valid.
func wrong(g []api.GNode) string {
	if len(g) > 2000 {
		return "error 5"
	}
	return "error 2"
}

// noNodes are none of any graph.
func noNodes(g []api.GNode) []int {
	return []int{-1, len(g), len(g) + 1, 2000, math.MaxInt, math.MinInt, 1 << 32, 1 << 16}
}

func TestP11_1_Examples(t *testing.T) {
	g := chapter()
	for _, c := range []struct {
		bounds, patterns, types []int
		want                    string
	}{
		{[]int{6}, []int{2}, []int{0}, "0"}, {[]int{6}, []int{3}, []int{4}, "0"}, {[]int{6}, []int{3}, []int{1}, "6"},
		{[]int{6}, []int{5}, []int{7}, "10: 10 0|1"}, {[]int{6, 6}, []int{2, 2}, []int{0, 1}, "10 6: 10 0|1"},
		{[]int{6, 6}, []int{9}, []int{0}, "error 161"}, {[]int{6}, []int{2, 2}, []int{0}, "error 2"},
	} {
		if got := of(g, c.bounds, c.patterns, c.types); got != c.want {
			t.Errorf("%v; %v; %v: %s", c.bounds, c.patterns, c.types, got)
		}
	}
}

// A match is a pattern and a type of a graph, and what is assigned.
type match struct {
	what          string
	g             []api.GNode
	pattern, with int
	want          string
}

func check(t *testing.T, matches []match) {
	t.Helper()
	for _, c := range matches {
		if got := assigned(c.g, []int{c.pattern}, []int{c.with}); got != c.want {
			t.Errorf("%s: %s, not %s", c.what, got, c.want)
		}
		// Of has no other opinion: the bound is a new node behind the others, a union that no join is
		g := append(slices.Clone(c.g), union(0, 1))
		bounds := slices.Repeat([]int{len(g) - 1}, api.MaxParts)
		h, l, e := infer.Of(g, bounds, []int{c.pattern}, []int{c.with})
		var found []string
		for k, at := range l {
			if at != bounds[k] {
				found = append(found, fmt.Sprintf("%d: %s", k, listed(graph.Members(h, at))))
			}
		}
		if s := strings.Join(found, "; "); e == api.OK && s != c.want || e != api.OK && told(g, h, l, e) != c.want {
			t.Errorf("%s: Of returns %s, error %d, not %s", c.what, s, e, c.want)
		}
	}
}

func TestP11_1_Variables(t *testing.T) {
	check(t, []match{
		{"dyn", with(free), varA, dyn, "0: 0"},
		{"null", with(free), varA, null, "0: 1"},
		{"bool", with(free), varA, boolean, "0: 2"},
		{"int", with(free), varA, integer, "0: 3"},
		{"a tag", with(free), varB, tagX, "1: 4"},
		{"another variable", with(free), varA, varB, "0: 7"},
		{"itself", with(free), varB, varB, "1: 7"},
		{"a variable whose bound is a record", with(record("a", integer)), varA, varC, "0: 8"},
		{"a record as a whole", with(free, record("a", integer)), varA, 11, "0: 11"},
		{"a union, by its members, in order", with(free, union(tagY, varB, null, integer, tagX)), varA, 11, "0: 5 7 1 3 4"},
		{"a union of records", with(free, record("a", integer), record("b", integer), union(12, 11)), varA, 13, "0: 12 11"},
		{"not what its own bound says", with(union(null, integer)), varC, boolean, "2: 2"},
		{"the greatest Num", with(free, variable(15, dyn)), 11, integer, "15: 3"},
	})
}

func TestP11_1_Similar(t *testing.T) {
	kinds := []api.GNode{plain(api.TDyn), plain(api.TNull), plain(api.TBool), plain(api.TInt), tag("x"), tag("y"), record(""), record("a", integer)}
	for i, a := range kinds {
		for j, b := range kinds {
			g := with(free, a, b, union(11, varA), union(varB, 11))
			want := "0: 12; 1: 12"
			if a.Kind == b.Kind && a.Name == b.Name {
				want = ""
			}
			if got := assigned(g, []int{13, 14}, []int{12, 12}); got != want {
				t.Errorf("%d with %d: %s, not %s", i, j, got, want)
			}
			if got := assigned(g, []int{11}, []int{12}); got != "" {
				t.Errorf("%d with %d: %s", i, j, got)
			}
		}
	}
}

func TestP11_1_Unions(t *testing.T) {
	check(t, []match{
		{"null or A with int", with(free, union(null, varA)), 11, integer, "0: 3"},
		{"null or A with null", with(free, union(null, varA)), 11, null, ""},
		{"A or null with null", with(free, union(varA, null)), 11, null, ""},
		{"null or A with dyn", with(free, union(null, varA)), 11, dyn, "0: 0"},
		{"dyn or A with dyn", with(free, union(dyn, varA)), 11, dyn, ""},
		{"dyn is not similar to others", with(free, union(dyn, varA)), 11, integer, "0: 3"},
		{"what is left of a union", with(free, union(varA, null, tagX), union(tagY, tagX, null, integer, dyn)), 11, 12, "0: 5 3 0"},
		{"nothing is left of a union", with(free, union(varA, null, tagX), union(tagX, null)), 11, 12, ""},
		{"no variable, nothing to assign", with(free, union(null, tagX), union(tagY, tagX, null, integer, dyn)), 11, 12, ""},
		{"a variable of the type is assigned, not its bound", with(free, union(null, varA)), 11, varC, "0: 8"},
		{"a variable that is a member of both", with(free, union(null, varA), union(null, varB, varA)), 11, 12, "0: 7 6"},
		{"a record is not assigned where a record is", with(free, record("a", varB), union(11, varA), record("b", integer)), 12, 13, ""},
		{"but its fields are matched", with(free, record("a", varB), union(varA, 11), record("a", integer), union(13, boolean)), 12, 14, "0: 2; 1: 3"},
		{"all records of a type", with(free, record("a", varB), union(11, varA), record("a", integer), record("a", null), union(14, tagX, 13)), 12, 15, "0: 4; 1: 1 3"},
		{"the first record of a pattern alone", with(free, record("a", varA), record("a b", varB, varB), union(11, 12), record("a b", integer, null)), 13, 14, "0: 3"},
		{"which is first among the members", with(free, record("a", varA), record("a b", varB, varB), union(12, null, 11), record("a b", integer, null)), 13, 14, "1: 3 1"},
		{"whatever keys there are", with(free, record("a", varA), record("b", varB), union(11, 12), record("b", integer)), 13, 14, ""},
		{"the first one of two members of one kind", with(free, plain(api.TInt), union(11, integer, varA), union(11, integer, null)), 12, 13, "0: 1"},
	})
}

func TestP11_1_Records(t *testing.T) {
	check(t, []match{
		{"each key", with(free, record("a b", varA, varB), record("a b", integer, null)), 11, 12, "0: 3; 1: 1"},
		{"keys that the pattern lacks", with(free, record("b", varA), record("a b c", integer, null, boolean)), 11, 12, "0: 1"},
		{"keys that the type lacks", with(free, record("a b c", varA, varB, varA), record("b", null)), 11, 12, "1: 1"},
		{"no keys in common", with(free, record("a c", varA, varA), record("b d", null, null)), 11, 12, ""},
		{"no keys", with(free, record(""), record("a", null)), 11, 12, ""},
		{"no keys in the type", with(free, record("a", varA), record("")), 11, 12, ""},
		{"dyn has no fields", with(free, record("a", varA)), 11, dyn, ""},
		{"null has no fields", with(free, record("a", varA)), 11, null, ""},
		{"a record is no tag", with(free, record("a", varA)), 11, tagX, ""},
		{"records of records", with(free, record("a", varA), record("a b", 11, varB), record("a", integer), record("a b", 13, 13)), 12, 14, "0: 3; 1: 13"},
		{"a union of fields", with(free, record("a", varA), union(null, integer), record("a", 12)), 11, 13, "0: 1 3"},
		{"each node once", with(free, record("a b c", varA, varD, varA), record("a b c", integer, integer, integer)), 11, 12, "0: 3"},
		{"nodes of equal types are not one", with(free, plain(api.TInt), record("a b", varA, varA), record("a b", 11, integer)), 12, 13, "0: 11 3"},
	})
}

func TestP11_1_Bounds(t *testing.T) {
	check(t, []match{
		{"a record", with(record("a", integer), record("a", varA)), 11, varC, "0: 3"},
		{"a union", with(union(null, 12), record("a", varA), record("a", integer)), 11, varC, "0: 3"},
		{"a union with a union", with(union(null, 13), record("a", varA), union(11, boolean), record("a", integer)), 12, varC, "0: 3"},
		{"a bound of a bound", with(variable(3, 12), record("a", varA), record("a", integer)), 11, varC, "0: 3"},
		{"a variable in a union", with(record("a", integer), record("a", varA), record("a", null), union(12, varC)), 11, 13, "0: 1 3"},
		{"dyn", with(free, record("a", varA)), 11, varC, ""},
		{"int", with(free), integer, varB, ""},
		{"a variable below it is assigned", with(record("a", varB), record("a", varA)), 11, varC, "0: 7"},
		{"its own bound", with(variable(3, 10), record("a", varA)), 11, 10, ""},
		{"a circle of bounds", with(variable(3, varC), record("a", varA)), 11, varC, ""},
		{"a circle with a way out", with(union(varC, 12), record("a", varA), record("a", integer)), 11, varC, "0: 3"},
		{"the bound of a variable of a pattern is no pattern", with(record("a", varA), record("a", integer)), varC, 11, "2: 11"},
		{"nor in a union", with(record("a", varA), record("a", integer), union(null, varC)), 12, 11, "2: 11"},
	})
}

func TestP11_1_Recursive(t *testing.T) {
	check(t, []match{
		{"a list", with(free, union(null, 12), record("hd tl", varA, 11), union(null, 14), record("hd tl", integer, 13)), 11, 13, "0: 3"},
		{"a list of two types in turn", with(free, union(null, 12), record("hd tl", varA, 11), record("hd tl", integer, 14), record("hd tl", null, 13)), 11, 13, "0: 3 1"},
		{"a pattern of two variables in turn", with(free, record("hd tl", varA, 12), record("hd tl", varB, 11), union(null, 14), record("hd tl", integer, 13)), 11, 13, "0: 3; 1: 3"},
		{"a list that ends", with(free, union(null, 12), record("hd tl", varA, 11), record("hd tl", tagX, 14), record("hd tl", tagY, null)), 11, 13, "0: 4 5"},
		{"circles of two and of three", with(free, record("a b", 12, varA), record("a b", 11, varB), record("a b", 14, integer), record("a b", 15, null), record("a b", 13, boolean)), 11, 13, "0: 1 2 3; 1: 2 3 1"},
		{"a pattern with itself", with(free, record("a b", 12, varA), record("a b", 11, varB)), 11, 11, "0: 6; 1: 7"},
		{"a pattern with the next one", with(free, record("a b", 12, varA), record("a b", 11, varB)), 11, 12, "0: 7; 1: 6"},
		{"to the right of itself", with(free, record("a b", varA, 11), record("a b", integer, 13), record("a b", null, 12)), 11, 12, "0: 3 1"},
		{"to the left of itself", with(free, record("a b", 11, varA), record("a b", 13, integer), record("a b", 12, null)), 11, 12, "0: 1 3"},
	})
}

// Nodes are assigned in the order in which they are met: with everything below a key ahead of the next one.
func TestP11_1_Order(t *testing.T) {
	check(t, []match{
		{"keys", with(free, record("a b c", varA, varD, varA), record("a b c", tagY, tagX, integer)), 11, 12, "0: 5 4 3"},
		{"what is below a key", with(free, record("a b", varA, varA), record("a b", 11, varA), record("a b", tagY, tagX), record("a b", 13, integer)), 12, 14, "0: 5 4 3"},
		{"a union in its order, with records between", with(free, record("a", varA), union(11, varA), record("a", tagY), record("a", tagX), union(integer, 13, null, 14, boolean)), 12, 15, "0: 3 5 1 4 2"},
		{"bounds between", with(record("a", null), record("a", varA), record("a", tagY), record("a", tagX), union(12, varC, 13)), 11, 14, "0: 5 1 4"},
		{"not again where it was", with(free, record("a b c", varA, varA, varA), union(tagX, integer), union(integer, tagX, null), record("a b c", integer, 12, 13)), 11, 14, "0: 3 4 1"},
		// the records meet in a union while their own first key is matched: their other keys are matched there
		{"records that are met below themselves", with(free, record("a b", 12, varA), union(11, varD), record("a b", 14, integer), union(13, tagX)), 11, 13, "0: 3 4"},
		{"and the union again below the second key", with(free, record("a b c", 12, varA, varA), union(11, varD), record("a b c", 14, 14, integer), union(13, tagX)), 11, 13, "0: 13 4 3"},
	})
	for _, c := range []struct {
		patterns, types []int
		want            string
	}{
		{[]int{varA, varB, varD}, []int{tagY, tagX, integer}, "0: 5 3; 1: 4"}, {[]int{varD, varB, varA}, []int{integer, tagX, tagY}, "0: 3 5; 1: 4"},
		{[]int{varA, varA, varA, varA}, []int{tagY, tagX, tagY, integer}, "0: 5 4 3"}, {nil, nil, ""},
	} {
		if got := assigned(with(free), c.patterns, c.types); got != c.want {
			t.Errorf("%v with %v: %s", c.patterns, c.types, got)
		}
	}
}

// A pattern with two variables is an error as soon as it is matched, whatever the type.
func TestP11_1_Ambiguous(t *testing.T) {
	const bad = "error 161"
	two := union(varA, varB)
	check(t, []match{
		{"with int", with(free, two), 11, integer, bad},
		{"with another union", with(free, two, union(null, integer)), 11, 12, bad},
		{"with itself", with(free, two), 11, 11, bad},
		{"with one of its variables", with(free, two), 11, varB, bad},
		{"as a type", with(free, two), varA, 11, "0: 6 7"},
		{"variables of one Num", with(free, union(varA, varD)), 11, integer, bad},
		{"more than two", with(free, union(varA, varD, varC, null)), 11, integer, bad},
		{"among others", with(free, union(null, varA, tagX, varB)), 11, integer, bad},
		{"with nothing that would be assigned", with(free, union(null, varA, varB)), 11, null, bad},
		{"with a circle of bounds", with(variable(3, varC), two), 11, varC, bad},
		{"at a key", with(free, two, record("a", 11), record("a", integer)), 12, 13, bad},
		{"at a later key", with(free, two, record("a b c", varA, null, 11), record("a c", integer, null)), 12, 13, bad},
		{"at a key that the type lacks", with(free, two, record("a b", varA, 11), record("a", integer)), 12, 13, "0: 3"},
		{"at a key, with no record", with(free, two, record("a", 11)), 12, dyn, ""},
		{"at a key, with another member", with(free, two, record("a", 11), union(null, 12, varC)), 13, null, ""},
		{"in the first record", with(free, two, record("a", 11), record("a", varA), union(12, 13), record("a", integer)), 14, 15, bad},
		{"in the second record", with(free, two, record("a", varA), record("a", 11), union(12, 13), record("a", integer)), 14, 15, "0: 3"},
		{"through a bound", with(record("a", integer), two, record("a", 11)), 12, varC, bad},
		{"in the bound of a variable of the pattern", with(union(varA, varB)), varC, integer, "2: 3"},
		{"far below", with(free, two, record("a b", 13, 11), record("a", 14), union(null, 12), record("a", 16), record("a b", 15, null)), 12, 15, ""},
		{"far below, with a record", with(free, two, record("a b", 13, 11), record("a", 14), union(null, 12), record("a b", 16, null), record("a", 15)), 12, 15, bad},
	})
	g := with(free, two, record("a", 11), record("a", integer))
	for _, c := range []struct{ patterns, types []int }{
		{[]int{11, varA}, []int{integer, integer}}, {[]int{varA, 11}, []int{integer, integer}}, {[]int{varA, 12, varB, null}, []int{11, 13, 11, null}},
	} {
		if got := assigned(g, c.patterns, c.types) + of(g, []int{0, 0}, c.patterns, c.types); got != bad+bad {
			t.Errorf("%v with %v: %s", c.patterns, c.types, got)
		}
	}
}

func TestP11_1_Result(t *testing.T) {
	g := with(union(null, integer), record("a b", varA, varB), record("a b", tagX, integer), record("a b", tagY, null), union(12, 13), union(tagX, null), plain(api.TInt))
	for _, c := range []struct {
		what                    string
		bounds, patterns, types []int
		want                    string
	}{
		{"nothing at all", nil, nil, nil, ""},
		{"no parameters", nil, []int{11}, []int{14}, ""},
		{"no arguments", []int{10, 3, varC}, nil, nil, "10 3 8"},
		{"bounds in the place of what is not there", []int{10, varA, 11}, []int{varB}, []int{integer}, "10 3 11"},
		{"a bound alone", []int{15}, []int{integer}, []int{tagX}, "15"},
		{"the bounds count, not those of the variables", []int{1, 2, 3}, []int{varA}, []int{tagX}, "4 2 3"},
		{"fewer parameters than variables", []int{0}, []int{11}, []int{12}, "4"},
		{"more parameters than variables", []int{0, 0, 0, 3}, []int{11}, []int{12}, "4 3 0 3"},
		{"a node is no new one", []int{0, 0}, []int{11, varB}, []int{12, integer}, "4 3"},
		{"a record is no new one", []int{0}, []int{varA}, []int{11}, "11"},
		{"two nodes are a new union", []int{0}, []int{varA, varD}, []int{tagX, integer}, "17: 17 4|3"},
		{"in their order", []int{0}, []int{varA, varD}, []int{integer, tagX}, "17: 17 3|4"},
		{"also those of a union that is there", []int{0}, []int{varA}, []int{15}, "17: 17 4|1"},
		{"new unions in the order of the parameters", []int{0, 0}, []int{11}, []int{14}, "17 18: 17 4|5; 18 3|1"},
		{"whatever is assigned first", []int{0, 0}, []int{varB, varA}, []int{10, 15}, "17 18: 17 4|1; 18 1|3"},
		{"one for each parameter, also of the same nodes", []int{0, 0}, []int{varA, varB}, []int{10, 10}, "17 18: 17 1|3; 18 1|3"},
		{"a bound between", []int{0, 0, 2}, []int{varA, varC}, []int{10, 15}, "17 0 18: 17 1|3; 18 4|1"},
		{"no union for what no parameter has", []int{0}, []int{varB, varA}, []int{10, integer}, "3"},
		{"equal types that are two nodes", []int{0}, []int{varA, varA}, []int{16, integer}, "17: 17 16|3"},
		{"each node once", []int{0}, []int{varA, varD, varA, varD}, []int{10, 10, 15, integer}, "17: 17 1|3|4"},
	} {
		if got := of(g, c.bounds, c.patterns, c.types); got != c.want {
			t.Errorf("%s: %s, not %s", c.what, got, c.want)
		}
	}
}

func TestP11_1_NoGraph(t *testing.T) {
	for _, g := range noGraphs() {
		for _, l := range [][]int{nil, {0}, {2}, {9}, {-1}, {5000}, make([]int, 17)} {
			for _, types := range [][]int{l, {0}} {
				if got := of(g, l, l, types) + assigned(g, l, types); got != wrong(g)+wrong(g) {
					t.Errorf("%v of %.200s: %s", l, show(g, 0), got)
				}
			}
		}
	}
}

func TestP11_1_Numbers(t *testing.T) {
	g := chapter()
	for n := range 40 {
		want := "error 2"
		if n <= 16 {
			want = listed(make([]int, n))
		}
		if got := of(g, make([]int, n), nil, nil); got != want {
			t.Errorf("%d bounds: %s", n, got)
		}
		for k := range 40 {
			if got := of(g, nil, make([]int, n), make([]int, k)); (got == "error 2") != (n != k) || n == k && got != "" {
				t.Errorf("%d patterns, %d types: %s", n, k, got)
			}
		}
	}
	// ahead of what is no node, and of two variables
	for _, c := range []struct{ bounds, patterns, types []int }{
		{append(make([]int, 16), -1), nil, nil}, {make([]int, 17), []int{-1}, []int{99}}, {[]int{99}, []int{0}, nil}, {nil, []int{99}, nil}, {nil, nil, []int{99}}, {nil, []int{0}, []int{0, -1}},
		{make([]int, 17), []int{9}, []int{0}}, {nil, []int{9, 9}, []int{0}},
	} {
		if got := of(g, c.bounds, c.patterns, c.types); got != "error 2" {
			t.Errorf("%v; %v; %v: %s", c.bounds, c.patterns, c.types, got)
		}
	}
}

func TestP11_1_NoNode(t *testing.T) {
	for _, g := range [][]api.GNode{chapter(), inRow(1), inRow(2000)} {
		for _, n := range noNodes(g) {
			for _, l := range [][]int{{n}, {n, 0}, {0, n}, {0, 0, n, 0}} {
				fine := make([]int, len(l))
				if got := of(g, l, nil, nil) + of(g, fine, l, fine) + of(g, fine, fine, l); got != "error 9error 9error 9" {
					t.Errorf("%v of %d nodes: %s", l, len(g), got)
				}
			}
		}
	}
	for _, l := range [][]int{{0}, {-1}, {5, 0}} {
		if got := of(nil, l, nil, nil) + of([]api.GNode{}, nil, l, l); got != "error 9error 9" {
			t.Errorf("%v: %s", l, got)
		}
	}
	if got := of(nil, nil, nil, nil) + given(nil, nil, nil, 0); got != "" {
		t.Error(got)
	}
	// ahead of two variables
	if got := of(chapter(), []int{99}, []int{9}, []int{0}) + of(chapter(), nil, []int{9, 0}, []int{0, -1}) + assigned(chapter(), []int{9, 99}, []int{0, 0}); got != "error 9error 9error 9" {
		t.Error(got)
	}
}

func TestP11_2_Given(t *testing.T) {
	g := with(free, record("a b c", varB, varA, varB), record("a b c", integer, tagX, 13), union(tagY, integer, null), variable(15, dyn))
	for _, c := range []struct {
		patterns, types []int
		k               int
		want            string
	}{
		{[]int{11}, []int{12}, 0, "4"}, {[]int{11}, []int{12}, 1, "3 5 1"}, {[]int{11}, []int{12}, 2, ""}, {[]int{14}, []int{12}, 15, "12"}, {[]int{14}, []int{13}, 15, "5 3 1"},
		{nil, nil, 0, ""}, {[]int{varA, varA, varD}, []int{integer, integer, integer}, 0, "3"},
	} {
		if got := given(g, c.patterns, c.types, c.k); got != c.want {
			t.Errorf("%v with %v, %d: %s", c.patterns, c.types, c.k, got)
		}
	}
	if got := given(chapter(), []int{5}, []int{7}, 0); got != "0 1" {
		t.Error(got)
	}
}

// noNums are Nums that no variable has.
var noNums = []int{-1, -16, 16, 17, 5000, math.MaxInt, math.MinInt, 1 << 32}

func TestP11_2_NoNum(t *testing.T) {
	for _, k := range noNums {
		if got := given(chapter(), []int{5, 8}, []int{7, 7}, k); got != "" {
			t.Errorf("%d: %s", k, got)
		}
	}
}

func TestP11_2_Errors(t *testing.T) {
	g := chapter()
	for _, k := range append(noNums, upTo(16)...) {
		for _, c := range []struct {
			patterns, types []int
			want            string
		}{
			{[]int{2, 2}, []int{0}, "error 2"}, {nil, []int{0}, "error 2"}, {[]int{0}, nil, "error 2"}, {[]int{-1}, []int{99, 99}, "error 2"}, {[]int{9}, []int{0, 0}, "error 2"},
			{[]int{99}, []int{0}, "error 9"}, {[]int{0}, []int{-1}, "error 9"}, {[]int{9, 0}, []int{0, 10}, "error 9"}, {[]int{9, math.MinInt}, []int{0, 0}, "error 9"},
			{[]int{9}, []int{0}, "error 161"}, {[]int{2, 9}, []int{0, 7}, "error 161"},
		} {
			if got := given(g, c.patterns, c.types, k); got != c.want {
				t.Errorf("%v with %v, %d: %s", c.patterns, c.types, k, got)
			}
		}
		for _, g := range noGraphs() {
			if got := given(g, []int{9}, []int{-1, 0}, k); got != wrong(g) {
				t.Errorf("%.200s: %s", show(g, 0), got)
			}
		}
	}
}

// rich is a valid graph with nodes of all kinds.
func rich() []api.GNode {
	return []api.GNode{
		plain(api.TDyn), plain(api.TNull), plain(api.TBool), plain(api.TInt), tag("a"), record(""),
		record("a b c", 6, 7, 8), union(1, 6), variable(0, 7), variable(15, 9), union(9, 6, 3), record("a", 10), record("a b", 3, 12), union(12, 5, 4),
	}
}

// roomy is the graph of rich, all of whose lists have unused capacity, which holds something.
func roomy() []api.GNode {
	g := append(rich(), tag("room"))
	for i := range g {
		g[i].Keys = append(slices.Clone(g[i].Keys), "room")[:len(g[i].Keys)]
		g[i].L = append(slices.Clone(g[i].L), 77)[:len(g[i].L)]
	}
	return g[:len(g)-1]
}

// whole returns a graph up to the capacity of its lists.
func whole(g []api.GNode) []api.GNode {
	g = slices.Clone(g[:cap(g)])
	for i, n := range g {
		g[i].Keys, g[i].L = n.Keys[:cap(n.Keys)], n.L[:cap(n.L)]
	}
	return g
}

// spoil changes everything in a graph, up to the capacity of its lists.
func spoil(g []api.GNode) {
	for _, n := range g {
		for k := range n.Keys[:cap(n.Keys)] {
			n.Keys[:cap(n.Keys)][k] = "spoilt"
		}
		spoilList(n.L)
	}
	for i := range g[:cap(g)] {
		g[:cap(g)][i] = api.GNode{Kind: -7, Name: "spoilt"}
	}
}

func spoilList(l []int) {
	for i := range l[:cap(l)] {
		l[:cap(l)][i] = -7
	}
}

// An answer is what Of and Given return for each pattern with each type.
type answer struct {
	h        []api.GNode
	l, given []int
}

// Lists are the arguments beside a graph, with room behind them.
type lists struct{ bounds, patterns, types []int }

// newLists has a second pattern, to which the first one is assigned: or int, to which nothing is, so that there may be nothing at all.
func newLists(pattern, with int) lists {
	second := 8
	if with%2 == 1 {
		second = 3
	}
	return lists{append(make([]int, 16), 77)[:16], []int{pattern, second, 77}[:2], []int{with, pattern, 77}[:2]}
}

// all are the lists up to their capacity.
func (x lists) all() []int {
	return slices.Concat(x.bounds[:cap(x.bounds)], x.patterns[:cap(x.patterns)], x.types[:cap(x.types)])
}

// ask asks for each pattern with each type, and tells what was made of the arguments.
func ask(t *testing.T, g []api.GNode, then func(answer, lists)) {
	before := graph.Copy(whole(g))
	for pattern := range g {
		for with := range g {
			x := newLists(pattern, with)
			var a answer
			var e api.Errno
			a.h, a.l, e = infer.Of(g, x.bounds, x.patterns, x.types)
			a.given, _ = infer.Given(g, x.patterns, x.types, 15)
			if e != api.OK {
				t.Fatalf("%d with %d: error %d", pattern, with, e)
			}
			then(a, x)
			if after := whole(g); !graph.Same(before, after) {
				t.Fatalf("%d with %d: %s, not %s", pattern, with, show(after, 0), show(before, 0))
			}
		}
	}
}

func TestP11_3_Arguments(t *testing.T) {
	i := 0
	ask(t, roomy(), func(a answer, x lists) {
		spoil(a.h)
		spoilList(a.l)
		spoilList(a.given)
		if pattern, with := i/14, i%14; !slices.Equal(x.all(), newLists(pattern, with).all()) {
			t.Errorf("%d with %d: %v", pattern, with, x)
		}
		i++
	})
	if i != 14*14 {
		t.Error(i)
	}
}

func TestP11_3_Results(t *testing.T) {
	var want, got []answer
	ask(t, rich(), func(a answer, _ lists) { want = append(want, a) })
	g := roomy()
	ask(t, g, func(a answer, x lists) {
		got = append(got, a)
		spoilList(x.bounds)
		spoilList(x.patterns)
		spoilList(x.types)
	})
	spoil(g)
	for i, a := range got {
		if w := want[i]; !graph.Same(a.h, w.h) || !slices.Equal(a.l, w.l) || !slices.Equal(a.given, w.given) {
			t.Errorf("%d: %s, %v, %v", i, show(a.h, 0), a.l, a.given)
		}
	}
}

// mark changes all lists of a graph where they lie, then makes each longer.
func mark(g []api.GNode) {
	for _, n := range g {
		for k := range n.L {
			n.L[k] += 5000
		}
		for k := range n.Keys {
			n.Keys[k] += "!"
		}
	}
	for i, n := range g {
		g[i].L = append(n.L, i)
		g[i].Keys = append(n.Keys, fmt.Sprint("more", i))
	}
}

// Lists of one result do not share what they hold, nor the room behind it: what is done to one is not seen in another one.
func TestP11_3_Lists(t *testing.T) {
	grown := 0
	ask(t, rich(), func(a answer, _ lists) {
		if len(a.h) > 14 {
			grown++
		}
		apart, l := graph.Copy(a.h), slices.Clone(a.l)
		mark(a.h)
		mark(apart)
		if !graph.Same(a.h, apart) || !slices.Equal(a.l, l) {
			t.Fatalf("%v, %v, not %v, %v", a.h, a.l, apart, l)
		}
	})
	if grown < 30 {
		t.Errorf("%d have grown", grown)
	}
}
