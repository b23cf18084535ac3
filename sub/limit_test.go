package sub_test

import (
	"fmt"
	"math/rand"
	"slices"
	"testing"

	"armillary/api"
	"armillary/graph"
	"armillary/sub"
)

// chain is a record in a record, and so on: so many, and behind them an end.
func chain(n int, end api.GNode) (g []api.GNode) {
	for i := range n {
		g = append(g, record("a", i+1))
	}
	return append(g, end)
}

// circle is so many records in a circle, the first of which is at a position.
func circle(at, n int) (g []api.GNode) {
	for i := range n {
		g = append(g, record("a", at+(i+1)%n))
	}
	return g
}

// all tells of all pairs whether they hold as they should; of some also by the other functions.
func all(t *testing.T, what string, g []api.GNode, strict bool, want func(a, b int) bool) {
	t.Helper()
	l, e := sub.All(g, strict)
	if e != api.OK || !square(l, len(g)) {
		t.Fatalf("%s: %d rows, error %d", what, len(l), e)
	}
	one := sub.May
	if strict {
		one = sub.Strict
	}
	for a := range g {
		for b := range g {
			if l[a][b] != want(a, b) {
				t.Fatalf("%s: %d, %d: %t", what, a, b, l[a][b])
			}
			if (a*len(g)+b)%799999 == 0 && one(g, a, b) != want(a, b) {
				t.Fatalf("%s: %d, %d: not %t", what, a, b, want(a, b))
			}
		}
	}
}

func TestP8_3_LongChain(t *testing.T) {
	same := func(a, b int) bool { return a == b }
	always := func(_, _ int) bool { return true }
	deeper := func(a, b int) bool { return a <= b }
	all(t, "an int in records", chain(1999, plain(api.TInt)), false, same)
	all(t, "an empty record in records", chain(1999, record("")), true, deeper)
	all(t, "dyn in records", chain(1999, plain(api.TDyn)), false, always)
	all(t, "dyn in records, strictly", chain(1999, plain(api.TDyn)), true, same)
	all(t, "records in a circle", circle(0, 2000), true, always)
	all(t, "equal types", inRow(2000), true, always)
}

func TestP8_3_LongBounds(t *testing.T) {
	var g []api.GNode
	for i := range 1999 {
		g = append(g, variable(i%16, i+1))
	}
	below := func(a, b int) bool { return a <= b }
	all(t, "variables bound by each other", append(g, plain(api.TInt)), true, below)
	all(t, "variables bound by each other, the last one by dyn", append(g, plain(api.TDyn)), false, func(a, b int) bool { return true })
	all(t, "variables in a circle of bounds", append(g, variable(0, 0)), true, func(a, b int) bool { return true })
	for i := range g {
		g[i].L = []int{1999}
	}
	same := func(a, b int) bool { return b == 1999 || a < 1999 && a%16 == b%16 }
	all(t, "variables with one bound", append(g, plain(api.TInt)), true, same)
}

// Two circles of records that have no common divisor: each record of one is held against each of the other one.
func TestP8_1_TwoCircles(t *testing.T) {
	g := append(circle(0, 999), circle(999, 1001)...)
	for _, c := range []struct{ a, b int }{{0, 999}, {1500, 3}} {
		if !sub.May(g, c.a, c.b) || !sub.Strict(g, c.a, c.b) || sub.Pick(g, c.a, c.b) != 0 {
			t.Errorf("%d, %d", c.a, c.b)
		}
	}
	if n, e := sub.Least(g, []int{998, 0, 1999}); n != 998 || e != api.OK {
		t.Errorf("%d, error %d", n, e)
	}
	// one record that has a key more, and then another one
	g[500] = record("a b", 501, 0)
	if sub.May(g, 1999, 0) || !sub.May(g, 0, 1999) {
		t.Error("a key more in the first circle")
	}
	g[1999] = record("a b", 999, 0)
	if sub.May(g, 1999, 0) || sub.May(g, 0, 1999) || sub.Strict(g, 999, 998) || sub.Pick(g, 998, 999) != -2 {
		t.Error("a key more in both circles")
	}
	if n, e := sub.Least(g, []int{998, 0, 1999}); n != 0 || e != api.ErrArg {
		t.Errorf("%d, error %d", n, e)
	}
}

// besides lays unions behind some nodes, each of which lacks only the one that is so far ahead of it.
func besides(g []api.GNode) []api.GNode {
	size := len(g)
	for k := range size {
		g = append(g, union(slices.DeleteFunc(upTo(size), func(i int) bool { return i == k })...))
	}
	return g
}

func TestP8_3_GreatUnions(t *testing.T) {
	var tags []api.GNode
	for i := range 1000 {
		tags = append(tags, tag(fmt.Sprintf("t%d", i)))
	}
	g := besides(tags)
	all(t, "tags", g, true, func(a, b int) bool { return a == b || a < 1000 && b >= 1000 && a != b-1000 })
	for _, c := range [][3]int{{7, 1003, 6}, {3, 1007, 3}, {7, 1007, -2}} {
		if got := sub.Pick(g, c[0], c[1]); got != c[2] {
			t.Errorf("%v: %d", c, got)
		}
	}
	g = besides(circle(0, 500))
	all(t, "records in a circle", g, false, func(_, _ int) bool { return true })
	g[499] = record("b", 0)
	all(t, "records that are all refuted late", g, true, func(a, b int) bool { return a == b || a < 500 && b >= 500 && a != b-500 })
}

func TestP8_1_GreatUnion(t *testing.T) {
	var g []api.GNode
	for i := range 1999 {
		g = append(g, tag(fmt.Sprintf("t%d", i)))
	}
	g = append(g, union(upTo(1999)...))
	if !sub.May(g, 1999, 1999) || !sub.Strict(g, 1998, 1999) || sub.May(g, 1999, 1998) || sub.Pick(g, 1998, 1999) != 1998 {
		t.Error("tags")
	}
	for i := range 1999 {
		g[i] = record("a", 1999)
	}
	if !sub.May(g, 1999, 1998) || !sub.Strict(g, 0, 1999) || sub.Pick(g, 1998, 1999) != 0 {
		t.Error("records of a union of themselves")
	}
}

func TestP8_3_LongList(t *testing.T) {
	g := chain(1999, record(""))
	l := slices.Repeat(upTo(2000), 100)
	slices.Reverse(l)
	if n, e := sub.Least(g, l); n != 0 || e != api.OK {
		t.Errorf("%d, error %d", n, e)
	}
	if n, e := sub.Least(g, append(l, -1)); n != 0 || e != api.ErrRange {
		t.Errorf("%d, error %d", n, e)
	}
	g[0] = plain(api.TNull)
	if n, e := sub.Least(g, l); n != 0 || e != api.ErrArg {
		t.Errorf("%d, error %d", n, e)
	}
	if n, e := sub.Least(inRow(2000), l); n != 1999 || e != api.OK {
		t.Errorf("%d, error %d", n, e)
	}
}

// many is a great valid graph at random, without variables and unions that hold everything together.
func (r maker) many(size int) []api.GNode {
	g := make([]api.GNode, size)
	for n := range g {
		g[n] = r.node(size, true)
		if n > 1 && r.Intn(5) == 0 {
			g[n] = plain(api.TUnion)
		}
	}
	for n := range g {
		if g[n].Kind == api.TUnion {
			r.fill(g, n)
		}
	}
	return g
}

func TestP8_3_GreatGraphs(t *testing.T) {
	r := maker{rand.New(rand.NewSource(3))}
	for range 8 {
		g := r.many(100 + r.Intn(60))
		for _, c := range []*reading{read(g, false), read(g, true)} {
			if l, e := sub.All(g, c.strict); e != api.OK || !sameRows(l, c.holds) {
				t.Fatalf("strictly %t: error %d: %s", c.strict, e, show(g))
			}
			for range 300 {
				a, b := r.Intn(len(g)), r.Intn(len(g))
				one, pick := sub.May, c.pick(a, b)
				if c.strict {
					one, pick = sub.Strict, sub.Pick(g, a, b)
				}
				if one(g, a, b) != c.holds[a][b] || sub.Pick(g, a, b) != pick {
					t.Fatalf("%d, %d, strictly %t: %s", a, b, c.strict, show(g))
				}
			}
		}
	}
}

// The order in which a map is gone through is another one each time.
func TestP8_3_Repeated(t *testing.T) {
	r := maker{rand.New(rand.NewSource(5))}
	g := r.many(600)
	if e := graph.Check(g); e != api.OK {
		t.Fatal(e)
	}
	first, _ := sub.All(g, true)
	for range 5 {
		if l, _ := sub.All(g, true); !sameRows(l, first) {
			t.Fatal("another result")
		}
	}
}
