package subst_test

import (
	"fmt"
	"slices"
	"testing"

	"armillary/api"
	"armillary/graph"
	"armillary/subst"
)

// full is a graph of so many nodes: types of all sorts, and behind them so many others that it is full.
func full(size int) []api.GNode {
	g := []api.GNode{
		plain(api.TInt), plain(api.TNull), variable(0, 0), variable(1, 0), record("a", 2), union(0, 2), union(1, 4), record("a b", 6, 5), union(2, 3), record("a b", 0, 1), union(9, 0), record("a", 8), union(7, 11, 9), union(0, 1),
	}
	return append(g, inRow(size-len(g))...)
}

// Each case tells how many nodes the answer has more: up to 2000 in all are not too many.
func TestP10_1_Limit(t *testing.T) {
	for _, c := range []struct {
		n    int
		args []int
		more int
	}{
		{0, nil, 0}, {9, nil, 0}, {10, nil, 0}, {2, []int{10}, 0}, {3, []int{0, 7}, 0}, {4, []int{0}, 1}, {5, []int{0}, 0}, {5, []int{1}, 1}, {6, []int{0}, 2}, {7, []int{0}, 3}, {7, []int{1}, 4},
		{8, []int{0, 0}, 0}, {8, []int{13, 13}, 1}, {8, []int{1, 0}, 1}, {11, []int{0, 0}, 1}, {11, []int{0, 1}, 2}, {12, []int{0, 0}, 5}, {12, []int{1, 0}, 7},
	} {
		for size := 1992; size <= 2000; size++ {
			got := of(full(size), c.n, c.args...)
			if fits := size+c.more <= 2000; fits == (got == "error 5") {
				t.Errorf("%d nodes, %d, %v: %s", size, c.n, c.args, got)
			}
			if h, _, e := subst.Of(full(size), c.n, c.args); e == api.OK && len(h) != size+c.more {
				t.Errorf("%d nodes, %d, %v: %d", size, c.n, c.args, len(h))
			}
		}
	}
	if got := of(full(2000), 7) + of(full(2000), 7, 2000) + of(full(2000), 2000, 0) + of(full(2001), 7); got != "error 9error 9error 9error 5" {
		t.Error(got)
	}
}

// Unions that become another node make no new ones: a thousand of them, in 63 records, do not fill the graph.
func TestP10_1_LimitWithoutUnions(t *testing.T) {
	g := []api.GNode{plain(api.TInt), variable(0, 0)}
	for range 1000 {
		g = append(g, union(0, 1))
	}
	for i := 0; i < 1000; i += 16 {
		l := upTo(1002)[2+i : min(18+i, 1002)]
		g = append(g, api.GNode{Kind: api.TRec, Keys: keysUpTo(len(l)), L: l})
	}
	g = append(g, union(upTo(len(g))[1002:]...))
	h, at, e := subst.Of(g, len(g)-1, []int{0})
	if e != api.OK || len(h) != len(g)+64 || at != len(h)-1 || slices.Max(h[len(g)].L) != 0 {
		t.Errorf("%d of %d nodes, error %d", at, len(h), e)
	}
	if _, _, e := subst.Of(append(g, plain(api.TNull)), len(g)-1, []int{len(g)}); e != api.ErrLimit {
		t.Errorf("error %d", e)
	}
}

func keysUpTo(n int) (l []string) {
	for i := range n {
		l = append(l, fmt.Sprintf("k%02d", i))
	}
	return l
}

// inLine are so many records, each with the next one, and behind them others, the first of which the last record has.
func inLine(n int, others ...api.GNode) (g []api.GNode) {
	for i := range n {
		g = append(g, record("a", i+1))
	}
	return append(g, others...)
}

func TestP10_1_Deep(t *testing.T) {
	g := inLine(999, variable(0, 1000), plain(api.TInt))
	h, at, e := subst.Of(g, 0, []int{1000})
	if e != api.OK || at != 1001 || len(h) != 2000 {
		t.Fatalf("%d of %d nodes, error %d", at, len(h), e)
	}
	for i := range 998 {
		if h[1001+i].L[0] != 1002+i {
			t.Fatalf("%d: %v", i, h[1001+i])
		}
	}
	if h[1999].L[0] != 1000 {
		t.Error(h[1999])
	}
	g = inLine(1000, variable(0, 1001), plain(api.TInt))
	if got := of(g, 0, 1001) + of(g, 1, 1001) + of(g, 2, 1001)[:4]; got != "error 5error 51002" {
		t.Error(got)
	}
	g = inLine(1999, plain(api.TInt))
	if got := of(g, 0) + vars(g, 0); got != "0[]" {
		t.Error(got)
	}
	g = inLine(1999, variable(3, 0))
	if got := of(g, 0, 0, 0, 0, 0) + of(g, 1998, 0, 0, 0, 7) + vars(g, 0); got != "error 5error 5[3]" {
		t.Error(got)
	}
	// in a circle, the variable far from where it begins
	g = inLine(1000, record("a b", 0, 1001), variable(3, 0))
	if got := vars(g, 7); got != "[3]" {
		t.Error(got)
	}
	g = inLine(900, record("a b", 0, 901), variable(3, 0))
	h, at, e = subst.Of(g, 500, []int{7, 7, 7, 900})
	if e != api.OK || at != 902 || len(h) != 902+901 || h[1302].L[1] != 900 || h[1302].L[0] != 1303 || h[len(h)-1].L[0] != 902 {
		t.Errorf("%d of %d nodes, error %d", at, len(h), e)
	}
}

// ways are so many records, each of which has the next one twice: there are 2 to that power ways to the end.
func ways(n int, end ...api.GNode) (g []api.GNode) {
	for i := range n {
		g = append(g, record("a b", i+1, i+1))
	}
	return append(g, end...)
}

func TestP10_1_ManyWays(t *testing.T) {
	h, at, e := subst.Of(ways(900, variable(0, 0)), 0, []int{0})
	if e != api.OK || at != 901 || len(h) != 1801 || !slices.Equal(h[1800].L, []int{0, 0}) {
		t.Errorf("%d of %d nodes, error %d", at, len(h), e)
	}
	if got := of(ways(1900, plain(api.TInt)), 0) + vars(ways(1900, variable(2, 0)), 0); got != "0[2]" {
		t.Error(got)
	}
}

// besides are so many nodes, and behind them unions of almost all of these.
func besides(size, unions int, node func(i int) api.GNode) (g []api.GNode) {
	for i := range size {
		g = append(g, node(i))
	}
	for k := range unions {
		g = append(g, union(slices.DeleteFunc(upTo(size), func(i int) bool { return i == k })...))
	}
	return g
}

// Records each of which has a union of almost all of them, and a variable.
func TestP10_1_GreatUnions(t *testing.T) {
	size := 490
	g := besides(size, size, func(i int) api.GNode { return record("a b", size+i, 2*size) })
	g = append(g, variable(0, 2*size))
	h, at, e := subst.Of(g, 0, []int{2 * size})
	if e != api.OK || at != len(g) || len(h) != len(g)+2*size || graph.Check(h) != api.OK {
		t.Fatalf("%d of %d nodes, error %d", at, len(h), e)
	}
	for i := range size {
		if u := h[h[len(g)+i].L[0]]; u.Kind != api.TUnion || len(u.L) != size-1 || slices.Min(u.L) < len(g) || slices.Max(u.L) >= len(g)+size {
			t.Fatalf("%d: %v", i, u)
		}
	}
	// none is affected
	g[2*size] = plain(api.TInt)
	if got := of(g, 0) + vars(g, size); got != "0[]" {
		t.Error(got)
	}
	// too many
	size = 999
	g = besides(size, size, func(i int) api.GNode { return record("a b", size+i, 2*size) })
	g = append(g, variable(0, 2*size), plain(api.TInt))
	if got := of(g, 0, 2*size+1) + vars(g, size); got != "error 5[0]" {
		t.Error(got)
	}
}

// Unions of almost as many variables, whose images are great unions themselves.
func TestP10_1_GreatArgs(t *testing.T) {
	many := 600
	g := besides(many, 560, func(i int) api.GNode { return variable(i%16, 0) })
	unions := upTo(len(g))[many:]
	args := make([]int, 16)
	for k := range args {
		args[k] = len(g) + 300 + k
	}
	g = append(g, inRow(300)...)
	for k := range args {
		l := upTo(len(g))[1160:1460]
		slices.Reverse(l[k:])
		g = append(g, union(l...))
	}
	for i := 0; i < len(unions); i += 16 {
		l := unions[i:min(i+16, len(unions))]
		g = append(g, api.GNode{Kind: api.TRec, Keys: keysUpTo(len(l)), L: l})
	}
	h, at, e := subst.Of(g, many, args)
	if e != api.OK || at != len(g) || len(h) != len(g)+1 || len(h[at].L) != 300 || h[at].L[0] != 1160 || h[at].L[1] != 1459 {
		t.Fatalf("%d of %d nodes, error %d", at, len(h), e)
	}
	top := len(g) - 1
	g = append(g, record("a", top))
	for i := range 34 {
		g = append(g, record("a b", len(g)-1, top-1-i))
	}
	if _, _, e := subst.Of(g, len(g)-1, args); e != api.ErrLimit {
		t.Errorf("error %d", e)
	}
	if got := vars(g, len(g)-1); got != fmt.Sprint(upTo(16)) {
		t.Error(got)
	}
}

// A union of 1999 nodes, and its image.
func TestP10_1_GreatestUnion(t *testing.T) {
	g := append(inRow(1998, variable(0, 0)), union(upTo(1999)...))
	if got := of(g, 1999, 1998); got != "error 5" {
		t.Error(got)
	}
	g = append(inRow(1997, variable(0, 0)), union(upTo(1998)...))
	for _, c := range []struct{ arg, members int }{{0, 1997}, {1996, 1997}, {1997, 1998}, {1998, 1998}} {
		h, at, e := subst.Of(g, 1998, []int{c.arg})
		if e != api.OK || at != 1999 || len(h) != 2000 || len(h[at].L) != c.members || graph.Check(h) != api.OK {
			t.Errorf("%d: %d of %d nodes, error %d", c.arg, at, len(h), e)
		}
	}
}

// A list of args that is much longer than the graph.
func TestP10_1_LongArgs(t *testing.T) {
	args := slices.Repeat(upTo(6), 500000)
	if got := of(chapter(), 3, args...); got != "9: 8 {hd: 0, tl: 9}; 9 1|8" {
		t.Error(got)
	}
	if got := of(chapter(), 3, append(args, 8)...); got != "error 9" {
		t.Error(got)
	}
}
