package fact_test

import (
	"fmt"
	"math"
	"slices"
	"strings"
	"testing"

	"armillary/api"
	"armillary/fact"
	"armillary/graph"
)

// Nodes of a graph, by their kinds.
func plain(kind int) api.GNode          { return api.GNode{Kind: kind} }
func tag(name string) api.GNode         { return api.GNode{Kind: api.TTag, Name: name} }
func union(l ...int) api.GNode          { return api.GNode{Kind: api.TUnion, L: l} }
func variable(num, bound int) api.GNode { return api.GNode{Kind: api.TVar, Num: num, L: []int{bound}} }

func record(keys string, l ...int) api.GNode {
	return api.GNode{Kind: api.TRec, Keys: strings.Fields(keys), L: l}
}

// inRow are so many plain nodes.
func inRow(n int) []api.GNode { return slices.Repeat([]api.GNode{plain(api.TInt)}, n) }

// of is a fact.
func of(a, b int, why ...int) api.Fact { return api.Fact{A: a, B: b, Why: why} }

// show writes nodes of a graph, by their kinds.
func show(g []api.GNode) string {
	names := [...]string{api.TDyn: "dyn", api.TNull: "null", api.TBool: "bool", api.TInt: "int"}
	var l []string
	for i, n := range g {
		s := fmt.Sprint(n)
		switch {
		case api.TDyn <= n.Kind && n.Kind <= api.TInt:
			s = names[n.Kind]
		case n.Kind == api.TTag:
			s = "'" + n.Name
		case n.Kind == api.TVar:
			s = fmt.Sprintf("variable %d %v", n.Num, n.L)
		case n.Kind == api.TUnion:
			s = strings.ReplaceAll(strings.Trim(fmt.Sprint(n.L), "[]"), " ", "|")
		case n.Kind == api.TRec && len(n.Keys) == len(n.L):
			var fields []string
			for k, key := range n.Keys {
				fields = append(fields, fmt.Sprintf("%s: %d", key, n.L[k]))
			}
			s = "{" + strings.Join(fields, ", ") + "}"
		}
		l = append(l, fmt.Sprintf("%d %s", i, s))
	}
	return strings.Join(l, "; ")
}

func listed(l []int) string { return strings.Trim(fmt.Sprint(l), "[]") }

// facts writes facts as the chapter does.
func facts(l []api.Fact) string {
	var s []string
	for _, f := range l {
		s = append(s, fmt.Sprintf("%d for %d, %s", f.A, f.B, listed(f.Why)))
	}
	return strings.Join(s, "; ")
}

// told writes a result of Find.
func told(l []api.Fact, at []int, e api.Errno) string {
	if e == api.OK {
		return facts(l) + " at " + listed(at)
	}
	if len(l) != 0 || len(at) != 0 {
		return fmt.Sprintf("error %d, but %s at %v", e, facts(l), at)
	}
	return fmt.Sprintf("error %d", e)
}

func find(g []api.GNode, pairs ...[2]int) string { return told(fact.Find(g, pairs)) }

// chapter is the graph of the chapter's examples.
func chapter() []api.GNode {
	return []api.GNode{plain(api.TInt), plain(api.TNull), union(0, 1), record("a", 0), record("a", 2), plain(api.TDyn), variable(0, 3)}
}

// Nodes of the graphs of with; others lie behind them, from 10 on.
const (
	dyn = iota
	null
	boolean
	integer
	tagX
	tagY
	varA // variable 0, bound by dyn
	varB // variable 1, bound by int
	some // the union of null and int
	none // the empty record
)

// with is a graph of simple types, and others.
func with(others ...api.GNode) []api.GNode {
	return append([]api.GNode{
		plain(api.TDyn), plain(api.TNull), plain(api.TBool), plain(api.TInt), tag("x"), tag("y"), variable(0, dyn), variable(1, integer), union(null, integer), record(""),
	}, others...)
}

// noGraphs are graphs that are not valid.
func noGraphs() [][]api.GNode {
	return [][]api.GNode{
		append(chapter(), union(0)), append(chapter(), plain(0)), append(chapter(), plain(api.TName)), append(chapter(), record("a")), append(chapter(), record("b a", 0, 0)),
		append(chapter(), union(0, 2)), append(chapter(), union(0, 0)), append(chapter(), variable(16, 0)), append(chapter(), variable(-1, 0)), append(chapter(), variable(0, 99)), append(chapter(), record("a", -1)), append(chapter(), tag("A")),
		inRow(2001), make([]api.GNode, 2001),
	}
}

// wrong is the error of graph.Check for a graph that is not valid.
func wrong(g []api.GNode) api.Errno {
	if len(g) > 2000 {
		return api.ErrLimit
	}
	return api.ErrArg
}

// noNodes are none of any graph.
func noNodes(g []api.GNode) []int {
	return []int{-1, -2, len(g), len(g) + 1, 2000, math.MaxInt, math.MinInt, 1 << 32, 1 << 16}
}

// judged writes what all functions tell of facts: an error; or which of them do not hold, and which of them cast.
func judged(g []api.GNode, l []api.Fact) string {
	e := fact.Check(g, l)
	first, e2 := fact.First(g, l)
	if e2 != e || e != api.OK && first != 0 {
		return fmt.Sprintf("error %d, but the first one is %d, error %d", e, first, e2)
	}
	var no, cast []int
	for k := range l {
		if !fact.Holds(g, l, k) {
			no = append(no, k)
		}
		if fact.Casts(g, l, k) {
			cast = append(cast, k)
		}
	}
	if e != api.OK {
		if len(no) != len(l) || len(cast) != 0 {
			return fmt.Sprintf("error %d, but not %v, casts %v", e, no, cast)
		}
		return fmt.Sprintf("error %d", e)
	}
	if want := append(slices.Clone(no), -1)[0]; first != want {
		return fmt.Sprintf("%v do not hold, but the first one is %d", no, first)
	}
	s := "all"
	if len(no) > 0 {
		s = "not " + listed(no)
	}
	if len(cast) > 0 {
		s += ", casts " + listed(cast)
	}
	return s
}

func TestP12_1_Examples(t *testing.T) {
	g := chapter()
	for _, c := range []struct {
		l    []api.Fact
		want string
	}{
		{[]api.Fact{of(5, 0, 0)}, "all, casts 0"}, {[]api.Fact{of(0, 5, 0)}, "all"}, {[]api.Fact{of(0, 1, 0)}, "not 0"}, {[]api.Fact{of(3, 4, 0, 0)}, "not 0"},
		{[]api.Fact{of(3, 4, 0, 1), of(0, 2, 0)}, "all"}, {nil, "all"},
	} {
		if got := judged(g, c.l); got != c.want {
			t.Errorf("%s: %s, not %s", facts(c.l), got, c.want)
		}
	}
}

// A judgement is of a fact, behind which others lie: 1 int for null or int, 2 null for it, 3 int for int.
type judgement struct {
	what string
	g    []api.GNode
	f    api.Fact
	want string
}

func judge(t *testing.T, l []judgement) {
	t.Helper()
	for _, c := range l {
		behind := []api.Fact{of(integer, some, 1), of(null, some, 0), of(integer, integer, 0)}
		if got := judged(c.g, append([]api.Fact{c.f}, behind...)); got != c.want {
			t.Errorf("%s: %s: %s, not %s", c.what, facts([]api.Fact{c.f}), got, c.want)
		}
		// ahead of them, and by another index, it is the same
		ahead := func(k int) int { return (k + 3) % 4 }
		if f, ok := renamed(c.g, c.f, ahead); ok {
			want := strings.ReplaceAll(c.want, "0", "3")
			if got := judged(c.g, append(behind, f)); got != want {
				t.Errorf("%s: as the last one: %s, not %s", c.what, got, want)
			}
		}
	}
}

// renamed is a fact whose indices of facts are others; not ok if one is none of the four.
func renamed(g []api.GNode, f api.Fact, to func(int) int) (api.Fact, bool) {
	f.Why = slices.Clone(f.Why)
	first := 1
	if 0 <= f.A && f.A < len(g) && g[f.A].Kind == api.TUnion {
		first = 0
	}
	for i := first; i < len(f.Why); i++ {
		if f.Why[i] < 0 || f.Why[i] > 3 {
			return f, false
		}
		f.Why[i] = to(f.Why[i])
	}
	return f, true
}

const (
	bad  = "error 2"
	all  = "all"
	not  = "not 0"
	cast = "all, casts 0"
)

func TestP12_1_Unions(t *testing.T) {
	g := with(union(null, integer), union(integer, null), union(null, integer, boolean), record("a", integer))
	judge(t, []judgement{
		{"for an equal one", g, of(some, 10, 2, 1), not},
		{"for itself", g, of(some, some, 2, 1), all},
		{"in another order", g, of(11, some, 1, 2), all},
		{"in the wrong order", g, of(some, some, 1, 2), not},
		{"one member's fact twice", g, of(some, some, 2, 2), not},
		{"another B", g, of(some, 11, 2, 1), not},
		{"another B, which is a member", g, of(some, integer, 2, 3), not},
		{"the fact itself", g, of(some, some, 2, 0), not},
		{"one number too few", g, of(some, some, 2), bad},
		{"one number too many", g, of(some, some, 2, 1, 1), bad},
		{"no number", g, of(some, some), bad},
		{"a member ahead of the facts", g, of(some, some, 0, 2, 1), bad},
		{"for what is no union, no member either", g, of(some, integer, 0, 2, 3), bad},
		{"-1 and a fact", g, of(some, some, -1, 2), bad},
		{"-1 alone", g, of(some, some, -1), bad},
		{"an index that is none", g, of(some, some, 2, 4), bad},
		{"a first index that is none", g, of(some, some, 4, 2), bad},
		{"a negative index", g, of(some, some, 2, -1), bad},
		{"a great index", g, of(some, some, 2, math.MaxInt), bad},
		{"a very negative index", g, of(some, some, math.MinInt, 2), bad},
		{"a member without a fact", g, of(12, some, 2, 1, 3), not},
	})
}

func TestP12_1_Bounds(t *testing.T) {
	g := with(variable(0, integer), variable(0, some), variable(0, 10), variable(3, 13), union(null, 10), record("a", integer))
	judge(t, []judgement{
		{"int for int", g, of(varB, integer, -1, 3), all},
		{"int for a union", g, of(varB, some, -1, 1), all},
		{"another A", g, of(varB, some, -1, 2), not},
		{"another B", g, of(varB, integer, -1, 1), not},
		{"another B, a union of it", g, of(varB, some, -1, 3), not},
		{"itself", g, of(varB, integer, -1, 0), not},
		{"a bound of a union", g, of(11, some, -1, 0), not},
		{"its own bound", g, of(13, integer, -1, 0), all},
		{"its own bound, by another fact", g, of(13, integer, -1, 3), not},
		{"a bound for a variable", g, of(10, 11, -1, 3), not},
		{"-1 alone", g, of(varB, integer, -1), bad},
		{"-1 and two facts", g, of(varB, integer, -1, 3, 3), bad},
		{"-1 and what is no fact", g, of(varB, integer, -1, 4), bad},
		{"-1 twice", g, of(varB, integer, -1, -1), bad},
		{"no variable, but int", g, of(integer, integer, -1, 3), bad},
		{"no variable, but dyn", g, of(dyn, integer, -1, 3), bad},
		{"no variable, but a record", g, of(15, none, -1, 3), bad},
		{"no variable, but a tag", g, of(tagX, tagX, -1), bad},
		{"-2", g, of(varB, integer, -2, 3), bad},
		{"no number", g, of(varB, integer), bad},
	})
	// a bound that is a union, and a bound of a bound
	for _, c := range []struct {
		l    []api.Fact
		want string
	}{
		{[]api.Fact{of(11, some, -1, 1), of(some, some, 2, 3), of(null, some, 0), of(integer, some, 1)}, all},
		{[]api.Fact{of(12, integer, -1, 1), of(10, integer, -1, 2), of(integer, integer, 0)}, all},
		{[]api.Fact{of(12, integer, -1, 2), of(10, integer, -1, 2), of(integer, integer, 0)}, not},
		// though a member covers it
		{[]api.Fact{of(12, dyn, -1, 1), of(10, dyn, -1, 2), of(integer, dyn, 0)}, all},
	} {
		if got := judged(g, c.l); got != c.want {
			t.Errorf("%s: %s, not %s", facts(c.l), got, c.want)
		}
	}
}

// Each kind, as A and as B, with nothing behind the member.
func TestP12_1_Kinds(t *testing.T) {
	kinds := []api.GNode{plain(api.TDyn), plain(api.TNull), plain(api.TBool), plain(api.TInt), tag("x"), tag("y"), record(""), variable(0, 0), variable(0, 0), union(0, 1)}
	for i, a := range kinds {
		for j, b := range kinds {
			g := with(a, b)
			want := not
			switch {
			case a.Kind == api.TUnion || a.Kind == api.TVar && b.Kind == api.TVar:
				want = bad
			case b.Kind == api.TUnion || b.Kind == api.TDyn:
				want = all
			case a.Kind == api.TDyn:
				want = cast
			case a.Kind == api.TVar || b.Kind == api.TVar:
			case a.Kind == b.Kind && a.Name == b.Name:
				want = all
			}
			judge(t, []judgement{{fmt.Sprintf("%d for %d", i, j), g, of(10, 11, 0), want}})
		}
	}
}

func TestP12_1_Members(t *testing.T) {
	g := with(union(null, tagX, integer, varA, none, 11), record("a", integer), union(null, dyn))
	judge(t, []judgement{
		{"the first member", g, of(null, 10, 0), all},
		{"a member in the middle", g, of(integer, 10, 2), all},
		{"a tag", g, of(tagX, 10, 1), all},
		{"another tag", g, of(tagY, 10, 1), not},
		{"another member", g, of(integer, 10, 0), not},
		{"a variable", g, of(integer, 10, 3), not},
		{"a record", g, of(integer, 10, 4), not},
		{"the last member", g, of(11, 10, 5, 3), all},
		{"an empty record", g, of(11, 10, 4), all},
		{"behind the last member", g, of(11, 10, 6), bad},
		{"the member itself instead of its index", g, of(11, 10, 11), bad},
		{"-1", g, of(null, 10, -1), bad},
		{"a great number", g, of(null, 10, math.MaxInt), bad},
		{"a very negative number", g, of(null, 10, math.MinInt), bad},
		{"0 for what is no union", g, of(null, null, 0), all},
		{"1 for what is no union", g, of(null, null, 1), bad},
		{"more than the member", g, of(null, 10, 0, 2), bad},
		{"nothing", g, of(null, 10), bad},
		{"dyn in a union", g, of(integer, 12, 1), all},
		{"dyn covers what null does not", g, of(integer, 12, 0), not},
		{"dyn for a union", g, of(dyn, 10, 4), cast},
		{"dyn for a union with dyn", g, of(dyn, 12, 0), all},
		{"dyn for dyn", g, of(dyn, 12, 1), all},
		{"A is no node", g, of(13, 10, 0), bad},
		{"B is no node", g, of(null, 13, 0), bad},
	})
	for _, n := range noNodes(g) {
		judge(t, []judgement{{"no A", g, of(n, null, 0), bad}, {"no B", g, of(null, n, 0), bad}, {"no B for a union", g, of(some, n, 0, 0), bad}, {"no B for a bound", g, of(varB, n, -1, 0), bad}, {"none", g, of(n, n), bad}})
	}
}

func TestP12_1_Records(t *testing.T) {
	g := with(record("a", integer), record("a b", integer, null), record("a b", some, some), record("b", some), record("a c", integer, integer), record("b c", null, integer), record("a b c", integer, null, integer), record("a", 17), record("aa", integer))
	judge(t, []judgement{
		{"no keys for no keys", g, of(none, none, 0), all},
		{"more keys for no keys", g, of(11, none, 0), all},
		{"no keys for no keys, and a fact", g, of(none, none, 0, 0), bad},
		{"no keys for a key", g, of(none, 10, 0, 3), not},
		{"no keys for a key, without a fact", g, of(none, 10, 0), bad},
		{"a key", g, of(10, 10, 0, 3), all},
		{"a fact for another B", g, of(10, 10, 0, 1), not},
		{"a fact for another A", g, of(10, 10, 0, 2), not},
		{"more keys for a key", g, of(11, 10, 0, 3), all},
		{"more keys, and facts of them", g, of(11, 10, 0, 3, 2), bad},
		{"fewer keys", g, of(10, 11, 0, 3, 2), not},
		{"fewer keys, with fewer facts", g, of(10, 11, 0, 3), bad},
		{"two keys", g, of(11, 12, 0, 1, 2), all},
		{"two keys in the wrong order", g, of(11, 12, 0, 2, 1), not},
		{"the second key alone", g, of(11, 13, 0, 2), all},
		{"the second key by the fact of the first one", g, of(11, 13, 0, 1), not},
		{"one key in common", g, of(14, 10, 0, 3), all},
		{"another key", g, of(10, 13, 0, 1), not},
		{"a key that begins like it", g, of(18, 10, 0, 3), not},
		{"and the other way round", g, of(10, 18, 0, 3), not},
		{"a key in the middle is missing", g, of(14, 16, 0, 3, 2, 3), not},
		{"the first key is missing", g, of(15, 16, 0, 3, 2, 3), not},
		{"keys in common that are not ahead", g, of(16, 15, 0, 2, 3), not},
		{"keys of three", g, of(16, 14, 0, 3, 3), all},
		{"no facts", g, of(11, 12, 0), bad},
		{"what is no fact", g, of(11, 12, 0, 1, 4), bad},
		{"a negative index", g, of(11, 12, 0, -1, 2), bad},
		{"a record of itself", g, of(17, 17, 0, 0), all},
		{"a record of itself, by another fact", g, of(17, 17, 0, 3), not},
		{"dyn for a record needs nothing", g, of(dyn, 11, 0), cast},
		{"dyn for a record, with a fact", g, of(dyn, 10, 0, 3), bad},
		{"a record for dyn", g, of(11, dyn, 0), all},
		{"a record for dyn, with facts", g, of(11, dyn, 0, 3, 3), bad},
		{"a record for null", g, of(none, null, 0), not},
		{"a record for a variable", g, of(10, varA, 0), not},
		{"a record for a variable, with a fact", g, of(10, varA, 0, 3), bad},
	})
	// in a union the keys of the member count
	g = with(record("a", integer), record("a b", integer, null), union(null, 10, 11))
	judge(t, []judgement{
		{"the first record of a union", g, of(11, 12, 1, 3), all},
		{"the second record of a union", g, of(11, 12, 2, 3, 3), not},
		{"the second record, with the facts of the first one", g, of(11, 12, 2, 3), bad},
		{"no record of the union", g, of(11, 12, 0), not},
		{"no record of the union, with a fact", g, of(11, 12, 0, 3), bad},
	})
}

func TestP12_1_Variables(t *testing.T) {
	g := with(variable(0, integer), variable(0, some), variable(0, integer), union(null, 11, 12), variable(2, 14), variable(2, 14), variable(1, 10))
	judge(t, []judgement{
		{"for itself", g, of(10, 10, 0, 3), all},
		{"for one of the same Num", g, of(10, 11, 0, 1), all},
		{"by a fact of another B", g, of(10, 11, 0, 3), not},
		{"by a fact of another A", g, of(10, 11, 0, 2), not},
		{"another Num, though bounds match", g, of(10, varB, 0, 3), not},
		{"another Num, the other way", g, of(varB, 12, 0, 3), not},
		{"a member of a union", g, of(10, 13, 1, 1), all},
		{"another member of the union", g, of(10, 13, 2, 3), all},
		{"the fact of another member", g, of(10, 13, 2, 1), not},
		{"no variable of the union", g, of(10, 13, 0), not},
		{"a bound that is itself", g, of(14, 14, 0, 0), all},
		{"a bound of the other one", g, of(15, 14, 0, 0), not},
		{"no fact", g, of(10, 10, 0), bad},
		{"two facts", g, of(10, 10, 0, 3, 3), bad},
		{"what is no fact", g, of(10, 10, 0, 4), bad},
		{"another Num needs a fact, too", g, of(10, varB, 0), bad},
		{"a variable for int", g, of(10, integer, 0), not},
		{"a variable for int, with a fact", g, of(10, integer, 0, 3), bad},
		{"int for a variable", g, of(integer, 10, 0), not},
		{"a variable for dyn", g, of(10, dyn, 0), all},
		{"a variable for dyn, with a fact", g, of(10, dyn, 0, 3), bad},
		{"dyn for a variable", g, of(dyn, 10, 0), cast},
		{"dyn for a variable whose bound is dyn", g, of(dyn, varA, 0), cast},
	})
}

// A fact casts by what it refers to, however far that is; whether it holds does not matter.
func TestP12_1_Casts(t *testing.T) {
	g := with(record("a", dyn), record("a", integer), union(dyn, null), variable(0, 12), record("a b", dyn, 14), record("a b", integer, 15), variable(1, dyn))
	for _, c := range []struct {
		what string
		l    []api.Fact
		want string
	}{
		{"a record of dyn for a record of int", []api.Fact{of(10, 11, 0, 1), of(dyn, integer, 0)}, "all, casts 0 1"},
		{"the other way round", []api.Fact{of(11, 10, 0, 1), of(integer, dyn, 0)}, all},
		{"a union with dyn", []api.Fact{of(12, some, 1, 2), of(dyn, some, 0), of(null, some, 0)}, "all, casts 0 1"},
		{"a union with dyn for itself", []api.Fact{of(12, 12, 1, 2), of(dyn, 12, 0), of(null, 12, 1)}, all},
		{"a bound of a union with dyn", []api.Fact{of(13, some, -1, 1), of(12, some, 2, 3), of(dyn, some, 0), of(null, some, 0)}, "all, casts 0 1 2"},
		{"a variable for a variable", []api.Fact{of(16, varB, 0, 1), of(dyn, integer, 0)}, "all, casts 0 1"},
		{"a circle with a cast", []api.Fact{of(14, 15, 0, 1, 0), of(dyn, integer, 0)}, "all, casts 0 1"},
		{"a circle without one", []api.Fact{of(15, 14, 0, 1, 0), of(integer, dyn, 0)}, all},
		{"others, that nothing refers to", []api.Fact{of(integer, integer, 0), of(dyn, integer, 0), of(null, null, 0)}, "all, casts 1"},
		{"the index of a member is no fact", []api.Fact{of(dyn, integer, 0), of(null, some, 0), of(integer, some, 1)}, "all, casts 0"},
		{"nor is that of a member of a record's", []api.Fact{of(dyn, null, 0), of(dyn, boolean, 0), of(11, 11, 0, 3), of(integer, integer, 0)}, "all, casts 0 1"},
		{"the first fact of a union is a fact", []api.Fact{of(dyn, integer, 0), of(some, some, 0, 0)}, "not 1, casts 0 1"},
		{"facts that do not hold", []api.Fact{of(10, 11, 0, 1), of(null, integer, 0), of(some, integer, 1, 3), of(dyn, tagX, 0)}, "not 0 1 2, casts 2 3"},
		{"through facts that do not hold", []api.Fact{of(11, 11, 0, 1), of(varB, null, -1, 2), of(varA, varB, 0, 3), of(dyn, varB, 0)}, "not 0 1 2, casts 0 1 2 3"},
		{"dyn for unions", []api.Fact{of(dyn, some, 1), of(dyn, 12, 1)}, "all, casts 0"},
		{"a record with dyn is no dyn", []api.Fact{of(dyn, 10, 0)}, "all, casts 0"},
	} {
		if got := judged(g, c.l); got != c.want {
			t.Errorf("%s: %s: %s, not %s", c.what, facts(c.l), got, c.want)
		}
	}
}

func TestP12_1_First(t *testing.T) {
	g := chapter()
	l := []api.Fact{of(0, 2, 0), of(1, 2, 1), of(2, 2, 0, 1), of(3, 3, 0, 4), of(0, 0, 0), of(6, 4, -1, 6), of(3, 4, 0, 0)}
	if k, e := fact.First(g, l); k != -1 || e != api.OK {
		t.Fatalf("%d, error %d", k, e)
	}
	for i := len(l) - 1; i >= 0; i-- {
		l[i].B = 1
		if l[i].A == 1 {
			l[i].B = 0
		}
		l[i].Why = l[i].Why[:1]
		if g[l[i].A].Kind == api.TUnion {
			l[i].Why = []int{0, 0}
		} else if l[i].Why[0] = 0; l[i].A == 6 {
			l[i].Why = []int{-1, 4}
		}
		if k, e := fact.First(g, l); k > i || k < 0 || fact.Holds(g, l, k) || e != api.OK {
			t.Errorf("%s: %d, error %d", facts(l), k, e)
		}
		for k := range l {
			if first, _ := fact.First(g, l); k < first && !fact.Holds(g, l, k) {
				t.Errorf("%s: %d is not the first one", facts(l), first)
			}
		}
	}
}

func TestP12_1_NoSuchFact(t *testing.T) {
	g, l := chapter(), []api.Fact{of(5, 0, 0), of(5, 1, 0)}
	for _, k := range []int{-1, 2, 3, 8000, math.MaxInt, math.MinInt, 1 << 32} {
		if fact.Holds(g, l, k) || fact.Casts(g, l, k) {
			t.Errorf("%d", k)
		}
	}
	for k := range l {
		if !fact.Holds(g, l, k) || !fact.Casts(g, l, k) {
			t.Errorf("%d", k)
		}
	}
	if fact.Holds(nil, nil, 0) || fact.Casts(nil, nil, 0) || fact.Holds(g, nil, 0) || fact.Casts(g, nil, 0) {
		t.Error("of none")
	}
}

func TestP12_1_Errors(t *testing.T) {
	good, ill := []api.Fact{of(0, 0, 0)}, []api.Fact{of(0, 0)}
	many := slices.Repeat(good, 8001)
	for _, g := range noGraphs() {
		for _, l := range [][]api.Fact{nil, good, ill, many} {
			if got := fact.Check(g, l); got != wrong(g) {
				t.Errorf("%d nodes, %d facts: error %d", len(g), len(l), got)
			}
			if k, e := fact.First(g, l); k != 0 || e != wrong(g) || fact.Holds(g, l, 0) || fact.Casts(g, l, 0) {
				t.Errorf("%d nodes, %d facts: the first one is %d, error %d", len(g), len(l), k, e)
			}
		}
	}
	g := chapter()
	casting := of(5, 0, 0)
	for _, c := range []struct {
		what string
		l    []api.Fact
		want api.Errno
	}{
		{"none", nil, api.OK}, {"an empty list", []api.Fact{}, api.OK}, {"one", good, api.OK}, {"an ill-formed one", ill, api.ErrArg}, {"a zero one", make([]api.Fact, 1), api.ErrArg},
		{"an ill-formed one at the end", []api.Fact{casting, casting, of(0, 2, 2)}, api.ErrArg}, {"an ill-formed one ahead", []api.Fact{of(2, 0, 3, 0), casting, casting}, api.ErrArg},
		{"8000", slices.Repeat(good, 8000), api.OK}, {"8001", many, api.ErrLimit}, {"8001 that are ill-formed", make([]api.Fact, 8001), api.ErrLimit}, {"8000 that are ill-formed", make([]api.Fact, 8000), api.ErrArg},
		{"8000, the last one ill-formed", append(slices.Repeat(good, 7999), ill...), api.ErrArg}, {"many more", make([]api.Fact, 1<<18), api.ErrLimit},
	} {
		if e := fact.Check(g, c.l); e != c.want {
			t.Errorf("%s: error %d", c.what, e)
		}
		k, e := fact.First(g, c.l)
		if want := map[bool]int{true: -1}[c.want == api.OK]; k != want || e != c.want {
			t.Errorf("%s: the first one is %d, error %d", c.what, k, e)
		}
		for k, f := range c.l {
			if k%997 == 0 && c.want != api.OK && (fact.Holds(g, c.l, k) || fact.Casts(g, c.l, k)) {
				t.Errorf("%s: %d, %v", c.what, k, f)
			}
		}
	}
}

func TestP12_2_Examples(t *testing.T) {
	g := chapter()
	for _, c := range []struct {
		pairs [][2]int
		want  string
	}{
		{[][2]int{{0, 2}}, "0 for 2, 0 at 0"}, {[][2]int{{3, 4}}, "3 for 4, 0 1; 0 for 2, 0 at 0"},
		{[][2]int{{6, 4}, {2, 5}}, "6 for 4, -1 1; 3 for 4, 0 2; 0 for 2, 0; 2 for 5, 4 5; 0 for 5, 0; 1 for 5, 0 at 0 3"},
		{[][2]int{{2, 0}}, "error 160"}, {[][2]int{{7, 0}}, "error 9"},
	} {
		if got := find(g, c.pairs...); got != c.want {
			t.Errorf("%v: %s, not %s", c.pairs, got, c.want)
		}
	}
}

func TestP12_2_Order(t *testing.T) {
	lists := []api.GNode{union(null, 11), record("hd tl", integer, 10), union(null, 13), record("hd tl", some, 12)}
	for _, c := range []struct {
		what  string
		g     []api.GNode
		pairs [][2]int
		want  string
	}{
		{"none", with(), nil, " at "},
		{"a type for itself", with(), [][2]int{{integer, integer}}, "3 for 3, 0 at 0"},
		{"a union for itself", with(), [][2]int{{some, some}}, "8 for 8, 1 2; 1 for 8, 0; 3 for 8, 1 at 0"},
		{"one twice", with(), [][2]int{{null, some}, {null, some}, {integer, some}, {null, some}}, "1 for 8, 0; 3 for 8, 1 at 0 0 1 0"},
		{"one that is there by another one", with(), [][2]int{{some, some}, {integer, some}, {null, some}}, "8 for 8, 1 2; 1 for 8, 0; 3 for 8, 1 at 0 2 1"},
		{"one ahead of what refers to it", with(), [][2]int{{integer, some}, {some, some}}, "3 for 8, 1; 8 for 8, 2 0; 1 for 8, 0 at 0 1"},
		{"keys, with everything below them", with(record("a", integer), record("b c", 10, null), record("a", some), record("b c", 12, some)), [][2]int{{11, 13}}, "11 for 13, 0 1 3; 10 for 12, 0 2; 3 for 8, 1; 1 for 8, 0 at 0"},
		{"one fact for two keys", with(record("a b", integer, integer), record("a b", some, some)), [][2]int{{10, 11}}, "10 for 11, 0 1 1; 3 for 8, 1 at 0"},
		{"the keys of the second one", with(record("a b c", null, integer, null), record("b", some)), [][2]int{{10, 11}}, "10 for 11, 0 1; 3 for 8, 1 at 0"},
		{"no keys", with(record("a", null)), [][2]int{{10, none}}, "10 for 9, 0 at 0"},
		{"itself below", with(record("a", 10)), [][2]int{{10, 10}}, "10 for 10, 0 0 at 0"},
		{"lists", with(lists...), [][2]int{{10, 12}}, "10 for 12, 1 2; 1 for 12, 0; 11 for 12, 1 3 0; 3 for 8, 1 at 0"},
		{"lists, from the record on", with(lists...), [][2]int{{11, 13}, {10, 12}}, "11 for 13, 0 1 2; 3 for 8, 1; 10 for 12, 3 4; 1 for 12, 0; 11 for 12, 1 1 2 at 0 2"},
		{"the first member that covers", with(record("a", integer), record("a", null), union(11, none, 10)), [][2]int{{10, 12}}, "10 for 12, 1 at 0"},
		{"what covers by a later one of two fields", with(record("a b", integer, integer), record("a b", integer, null), record("a b", integer, some), union(11, 12)), [][2]int{{10, 13}}, "10 for 13, 1 1 2; 3 for 3, 0; 3 for 8, 1 at 0"},
		{"dyn is covered by the first member", with(union(tagX, null)), [][2]int{{dyn, 10}}, "0 for 10, 0 at 0"},
		{"dyn covers", with(union(tagX, dyn, integer)), [][2]int{{integer, 10}, {tagY, 10}, {tagX, 10}}, "3 for 10, 1; 5 for 10, 1; 4 for 10, 0 at 0 1 2"},
		{"dyn for dyn", with(), [][2]int{{dyn, dyn}}, "0 for 0, 0 at 0"},
		{"a union for dyn", with(), [][2]int{{some, dyn}}, "8 for 0, 1 2; 1 for 0, 0; 3 for 0, 0 at 0"},
		{"a variable for itself", with(), [][2]int{{varB, varB}}, "7 for 7, 0 1; 3 for 3, 0 at 0"},
		{"a variable for its bound", with(), [][2]int{{varB, integer}, {varA, dyn}}, "7 for 3, -1 1; 3 for 3, 0; 6 for 0, 0 at 0 2"},
		{"a bound of dyn for anything", with(), [][2]int{{varA, some}}, "6 for 8, -1 1; 0 for 8, 0 at 0"},
		{"a member ahead of the bound", with(union(integer, varB)), [][2]int{{varB, 10}}, "7 for 10, 1 1; 3 for 3, 0 at 0"},
		{"the bound, where the Num is another one", with(variable(2, integer), union(10, integer)), [][2]int{{varB, 11}}, "7 for 11, -1 1; 3 for 11, 1 at 0"},
		{"the bound, where bounds do not fit", with(variable(1, null), union(10, integer)), [][2]int{{varB, 11}}, "7 for 11, -1 1; 3 for 11, 1 at 0"},
		{"a bound of a union", with(variable(4, some), union(integer, null, boolean)), [][2]int{{10, 11}}, "10 for 11, -1 1; 8 for 11, 2 3; 1 for 11, 1; 3 for 11, 0 at 0"},
		{"a variable that is its own bound", with(variable(4, 10)), [][2]int{{10, integer}, {10, 10}}, "10 for 3, -1 0; 10 for 10, 0 1 at 0 1"},
		{"two that are each other's bounds", with(variable(4, 11), variable(5, 10)), [][2]int{{10, null}}, "10 for 1, -1 1; 11 for 1, -1 0 at 0"},
		{"equal types that are two nodes", with(plain(api.TInt)), [][2]int{{10, integer}, {integer, 10}, {10, 10}}, "10 for 3, 0; 3 for 10, 0; 10 for 10, 0 at 0 1 2"},
		{"the other way round is another pair", with(plain(api.TDyn)), [][2]int{{10, integer}, {integer, 10}}, "10 for 3, 0; 3 for 10, 0 at 0 1"},
	} {
		if got := find(c.g, c.pairs...); got != c.want {
			t.Errorf("%s: %s, not %s", c.what, got, c.want)
		}
	}
}

func TestP12_2_Errors(t *testing.T) {
	for _, g := range noGraphs() {
		for _, pairs := range [][][2]int{nil, {{0, 0}}, {{-1, 0}}, {{1, 0}}} {
			if got := find(g, pairs...); got != fmt.Sprintf("error %d", wrong(g)) {
				t.Errorf("%d nodes, %v: %s", len(g), pairs, got)
			}
		}
	}
	g := chapter()
	const noNode, noSubtype = "error 9", "error 160"
	for _, n := range noNodes(g) {
		for _, pairs := range [][][2]int{{{n, 0}}, {{0, n}}, {{n, n}}, {{0, 0}, {0, n}}, {{0, 1}, {n, 0}}, {{n, 0}, {0, 1}}, {{0, n}, {0, 0}}} {
			if got := find(g, pairs...); got != noNode {
				t.Errorf("%v: %s", pairs, got)
			}
		}
	}
	for _, pairs := range [][][2]int{{{0, 1}}, {{2, 0}}, {{4, 3}}, {{3, 6}}, {{0, 3}}, {{3, 0}}, {{0, 0}, {2, 0}}, {{2, 0}, {0, 0}}, {{6, 4}, {2, 5}, {4, 6}}, {{6, 0}}} {
		if got := find(g, pairs...); got != noSubtype {
			t.Errorf("%v: %s", pairs, got)
		}
	}
	if got := find(nil); got != " at " {
		t.Errorf("no graph: %s", got)
	}
	if got := find(nil, [2]int{0, 0}); got != noNode {
		t.Errorf("no graph: %s", got)
	}
}

func TestP12_3_Same(t *testing.T) {
	l := []api.Fact{of(0, 1, 2, 3), of(4, 5), of(-1, math.MaxInt, math.MinInt)}
	if !fact.Same(l, fact.Copy(l)) || !fact.Same(l, l) || !fact.Same(nil, []api.Fact{}) || !fact.Same([]api.Fact{}, nil) || !fact.Same(nil, nil) {
		t.Error("not the same")
	}
	if !fact.Same([]api.Fact{{Why: []int{}}}, make([]api.Fact, 1)) || !fact.Same(make([]api.Fact, 1), []api.Fact{{Why: []int{}}}) {
		t.Error("an empty list and none")
	}
	for i, change := range []func(*api.Fact){
		func(f *api.Fact) { f.A++ }, func(f *api.Fact) { f.B++ }, func(f *api.Fact) { f.A, f.B = f.B, f.A }, func(f *api.Fact) { f.Why = append(f.Why, 0) },
		func(f *api.Fact) { f.Why = append([]int{0}, f.Why...) }, func(f *api.Fact) { f.Why = append(slices.Clone(f.Why[:len(f.Why)/2]), 9) },
	} {
		for k := range l {
			c := fact.Copy(l)
			if change(&c[k]); fact.Same(l, c) || fact.Same(c, l) {
				t.Errorf("change %d of fact %d", i, k)
			}
		}
	}
	for k := range l {
		if fact.Same(l, l[:k]) || fact.Same(l[:k], l) {
			t.Errorf("the first %d", k)
		}
	}
	c := fact.Copy(l)
	if c[0].Why[1] = 4; fact.Same(l, c) {
		t.Error("the last number")
	}
	if c[0], c[1] = l[1], l[0]; fact.Same(l, c) {
		t.Error("another order")
	}
}

func TestP12_3_Copy(t *testing.T) {
	for _, l := range [][]api.Fact{nil, {}, {of(0, 1, 2, 3), of(4, 5), {A: 6, B: 7, Why: []int{}}, of(-1, math.MaxInt, math.MinInt)}, make([]api.Fact, 9000)} {
		c := fact.Copy(l)
		if len(c) != len(l) || facts(c) != facts(l) {
			t.Errorf("%s: %s", facts(l), facts(c))
		}
	}
	l := []api.Fact{of(0, 1, 2, 3), of(4, 5, 6)}
	c := fact.Copy(l)
	l[0].A, l[0].Why[0], l[1].Why[0] = 9, 9, 9
	if got := facts(c); got != "0 for 1, 2 3; 4 for 5, 6" {
		t.Errorf("a copy changes with its original: %s", got)
	}
	c[1].B, c[1].Why[0] = 8, 8
	if got := facts(l); got != "9 for 1, 9 3; 4 for 5, 9" {
		t.Errorf("an original changes with its copy: %s", got)
	}
	apart(t, "a copy", fact.Copy(l))
}

// roomy returns a list with room behind it, which is marked.
func roomy[T any](l []T, mark T) []T {
	c := append(append(make([]T, 0, len(l)+2), l...), mark, mark)
	return c[:len(l)]
}

// spacious returns a graph, facts and pairs with marked room behind each list; whole writes all of them, the room too.
func spacious(g []api.GNode, l []api.Fact, pairs [][2]int) (h []api.GNode, m []api.Fact, more [][2]int) {
	h = roomy(graph.Copy(g), tag("room"))
	for i := range h {
		h[i].Keys, h[i].L = roomy(h[i].Keys, "room"), roomy(h[i].L, -7)
	}
	m = roomy(fact.Copy(l), of(-7, -7, -7))
	for i := range m {
		m[i].Why = roomy(m[i].Why, -7)
	}
	return h, m, roomy(pairs, [2]int{-7, -7})
}

func whole(g []api.GNode, l []api.Fact, pairs [][2]int) string {
	var s []string
	for _, n := range g[:cap(g)] {
		s = append(s, fmt.Sprintln(n.Kind, n.Name, n.Num, n.Keys[:cap(n.Keys)], n.L[:cap(n.L)]))
	}
	for _, f := range l[:cap(l)] {
		s = append(s, fmt.Sprintln(f.A, f.B, f.Why[:cap(f.Why)]))
	}
	return strings.Join(s, "") + fmt.Sprint(pairs[:cap(pairs)])
}

// apart tells of facts whose lists share memory: what is appended to one must not be seen in another one.
func apart(t *testing.T, what string, l []api.Fact) {
	t.Helper()
	before := facts(l)
	for _, f := range l {
		more := f.Why[:cap(f.Why)]
		for i := len(f.Why); i < len(more); i++ {
			more[i] = -9
		}
	}
	if got := facts(l); got != before {
		t.Errorf("%s: %s, then %s", what, before, got)
	}
	for k, f := range l {
		for i := range f.Why {
			f.Why[i]--
			after := facts(slices.Concat(l[:k], l[k+1:]))
			f.Why[i]++
			if after != facts(slices.Concat(l[:k], l[k+1:])) {
				t.Errorf("%s: the list of fact %d is shared", what, k)
			}
		}
	}
}

func TestP12_4_ArgumentsAreOnlyRead(t *testing.T) {
	g := chapter()
	found, _, _ := fact.Find(g, [][2]int{{6, 4}, {2, 5}, {5, 0}, {2, 2}, {6, 6}})
	for _, l := range [][]api.Fact{found, {of(0, 1, 0), of(5, 0, 0)}, {of(2, 2, 0, 9)}, nil} {
		for _, pairs := range [][][2]int{{{6, 4}, {2, 5}, {6, 6}}, {{2, 0}}, {{7, 0}}, nil} {
			h, m, p := spacious(g, l, pairs)
			before := whole(h, m, p)
			fact.Check(h, m)
			fact.First(h, m)
			for k := range m {
				fact.Holds(h, m, k)
				fact.Casts(h, m, k)
			}
			fact.Find(h, p)
			fact.Same(m, m[:len(m)/2])
			fact.Copy(m)
			if got := whole(h, m, p); got != before {
				t.Errorf("%s; %v: changed to %s", facts(l), pairs, got)
			}
		}
	}
}

func TestP12_4_ResultsAreNew(t *testing.T) {
	g, pairs := chapter(), [][2]int{{6, 4}, {2, 5}, {2, 2}, {3, 3}}
	l, at, e := fact.Find(g, pairs)
	want := told(l, at, e)
	apart(t, "found facts", l)
	for i := range g {
		g[i].L = append(g[i].L[:0], make([]int, len(g[i].L))...)
		g[i].Kind = api.TBool
	}
	pairs[0], pairs[1] = [2]int{}, [2]int{}
	if got := told(l, at, e); got != want {
		t.Errorf("%s, then %s", want, got)
	}
	for i := range l {
		for k := range l[i].Why {
			l[i].Why[k] = -5
		}
	}
	at[0] = -5
	if got := told(fact.Find(chapter(), [][2]int{{6, 4}, {2, 5}, {2, 2}, {3, 3}})); got != want {
		t.Errorf("%s, then %s", want, got)
	}
}
