package canon_test

import (
	"fmt"
	"slices"
	"testing"

	"armillary/api"
	"armillary/canon"
)

// chain is a record in a record, and so on: so many, and behind them an end.
func chain(n int, end api.GNode) (g []api.GNode) {
	for i := range n {
		g = append(g, record("a", i+1))
	}
	return append(g, end)
}

// sized returns the canonical graph of all nodes, which must have so many, and the positions.
func sized(t *testing.T, g []api.GNode, nodes int) (h []api.GNode, at []int) {
	t.Helper()
	h, at, e := canon.Of(g, upTo(len(g)))
	if e != api.OK || len(h) != nodes || len(at) != len(g) {
		t.Fatalf("%d nodes, %d positions, error %d", len(h), len(at), e)
	}
	if e := canon.Check(h, at); e != api.OK {
		t.Errorf("no canonical graph: error %d", e)
	}
	return h, at
}

func TestP7_1_LongChain(t *testing.T) {
	g := chain(1999, plain(api.TNull))
	if _, at := sized(t, g, 2000); !slices.Equal(at, upTo(2000)) {
		t.Errorf("%v", at)
	}
	slices.Reverse(g)
	for i := range g[1:] {
		g[i+1].L = []int{i}
	}
	h, at := sized(t, g, 2000)
	if h[1999].L[0] != 1998 || !slices.Equal(at, upTo(2000)) {
		t.Errorf("%v", at)
	}
	g = append(chain(999, plain(api.TNull)), canon.Join(inRow(1000), chain(999, plain(api.TNull)))[1000:]...)
	if _, at := sized(t, g, 1000); !slices.Equal(at, slices.Concat(upTo(1000), upTo(1000))) {
		t.Errorf("%v", at)
	}
}

func TestP7_1_LongCircle(t *testing.T) {
	for _, c := range []struct{ marks, nodes int }{{2000, 1}, {500, 500}, {400, 400}, {1000, 1000}, {5, 5}} {
		g := make([]api.GNode, 2000)
		for i := range g {
			g[i] = record("a", (i+1)%2000)
			if i%c.marks == 7%c.marks && c.marks < 2000 {
				g[i].Keys = []string{"b"}
			}
		}
		_, at := sized(t, g, c.nodes)
		for i := range at {
			if at[i] != i%c.nodes {
				t.Fatalf("%v: %v", c, at)
			}
		}
	}
}

// Tags of which the last one is the least, and unions of each two that are side by side: ranks of one and of two bytes.
func TestP7_1_ManyUnions(t *testing.T) {
	var g []api.GNode
	for i := range 1000 {
		g = append(g, tag(fmt.Sprintf("t%d", 1999-i)))
	}
	for i := range 999 {
		g = append(g, union(i, i+1))
	}
	h, at := sized(t, g, 1999)
	for i := range 999 {
		if got := h[at[1000+i]]; !slices.Equal(got.L, []int{at[i+1], at[i]}) {
			t.Fatalf("%d: %v", i, got)
		}
	}
	for i := range 500 {
		g[1000+i] = union(i, 999-i)
	}
	sized(t, g, 1999)
}

func TestP7_1_GreatUnions(t *testing.T) {
	h, at, e := canon.Of(inRow(1999, union(upTo(1999)...)), []int{1999, 0})
	if e != api.OK || show(h) != "int" || !slices.Equal(at, []int{0, 0}) {
		t.Errorf("%s at %v, error %d", show(h), at, e)
	}
	g := make([]api.GNode, 2000)
	for i := range 1999 {
		g[i] = tag(fmt.Sprintf("t%d", 3999-i))
	}
	g[1999] = union(upTo(1999)...)
	h, _, e = canon.Of(g, []int{1999})
	if e != api.OK || len(h) != 2000 || !slices.Equal(h[0].L, upTo(2000)[1:]) || h[1].Name != "t2001" || h[1999].Name != "t3999" {
		t.Errorf("%v, error %d", h, e)
	}
	// unions of a thousand members each, of two kinds
	g = g[:1000]
	for i := range 1000 {
		l := slices.Concat(upTo(1000)[i:], upTo(i))
		g = append(g, union(l[:999+i%2]...))
	}
	sized(t, g, 1000+500+1)
}

// Nodes that differ only at the last depth, with unions of almost all of them beside.
func TestP7_1_ManyRounds(t *testing.T) {
	const n = 300
	var g []api.GNode
	for i := range n {
		g = append(g, record("a b", i+1, n+1+i))
	}
	g = append(g, plain(api.TNull))
	for i := range n {
		l := slices.DeleteFunc(upTo(n+1), func(k int) bool { return k == i })
		g = append(g, union(l...))
	}
	h, at := sized(t, g, 2*n+1)
	for i := range n {
		want := slices.Delete(slices.Clone(at[:n+1]), i, i+1)
		slices.Reverse(want) // the record that is closest to the end of the chain precedes the others
		if l := h[at[n+1+i]].L; !slices.Equal(l, want) {
			t.Fatalf("%d: %v, not %v", i, l, want)
		}
	}
}

func TestP7_1_ManyRoots(t *testing.T) {
	g := chain(1999, plain(api.TInt))
	roots := append(upTo(2000), upTo(2000)...)
	slices.Reverse(roots)
	h, at, e := canon.Of(g, roots)
	if e != api.OK || len(h) != 2000 {
		t.Fatalf("%d nodes, error %d", len(h), e)
	}
	for i, n := range roots {
		if at[i] != 1999-n {
			t.Fatalf("root %d at %d", n, at[i])
		}
	}
	if _, _, e := canon.Of(g, append(roots, 0)); e != api.ErrLimit {
		t.Errorf("4001 roots: error %d", e)
	}
}

// Two types that differ at depth 1000 and no smaller one.
func TestP7_2_Deep(t *testing.T) {
	for _, c := range []struct {
		one, other api.GNode
		want       int
	}{
		{plain(api.TNull), plain(api.TNull), 0},
		{plain(api.TNull), plain(api.TInt), -1},
		{plain(api.TInt), plain(api.TNull), 1},
		{record(""), record("a", 999), -1},
		{record("a", 0), record("a", 999), 0},
		{variable(0, 0), record("a", 999), 1},
	} {
		g := canon.Join(chain(999, c.one), chain(999, c.other))
		if got := canon.Compare(g, 0, 1000); got != c.want {
			t.Errorf("%v and %v: %d", c.one, c.other, got)
		}
		if got := canon.Compare(g, 1000, 0); got != -c.want {
			t.Errorf("%v and %v: %d", c.other, c.one, got)
		}
		if canon.One(g, 0, 1000) != (c.want == 0) {
			t.Errorf("%v and %v: One", c.one, c.other)
		}
	}
}
