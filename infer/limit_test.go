package infer_test

import (
	"fmt"
	"slices"
	"strings"
	"testing"

	"armillary/api"
	"armillary/infer"
)

// full is a graph of so many nodes: types of all sorts, and behind them so many others that it is full.
func full(size int) []api.GNode {
	g := with(free, union(null, integer), record("a b", varA, varB), record("a b", 11, tagX), record("a b", 11, 11), union(varA, varB))
	return append(g, inRow(size-len(g))...)
}

// Each case tells how many nodes the answer has more: up to 2000 in all are not too many.
func TestP11_1_Limit(t *testing.T) {
	for _, c := range []struct {
		bounds, patterns, types []int
		more                    int
	}{
		{nil, []int{varA}, []int{11}, 0}, {[]int{11}, nil, nil, 0}, {[]int{0}, []int{varA}, []int{14}, 0}, {[]int{0}, []int{varA}, []int{11}, 1}, {[]int{0, 0}, []int{12}, []int{13}, 1}, {[]int{0, 0}, []int{12}, []int{14}, 2},
		{[]int{0}, []int{12}, []int{14}, 1}, {[]int{0, 0, 0}, []int{12, varC}, []int{14, 11}, 3}, {[]int{0, 0, 0}, []int{12, varC}, []int{13, null}, 1},
	} {
		for size := 1995; size <= 2000; size++ {
			g := full(size)
			h, l, e := infer.Of(g, c.bounds, c.patterns, c.types)
			got := told(g, h, l, e)
			if fits := size+c.more <= 2000; fits == (got == "error 5") || fits && len(h) != size+c.more {
				t.Errorf("%d nodes, %v; %v; %v: %s", size, c.bounds, c.patterns, c.types, got)
			}
			// Given needs no nodes
			if got := assigned(g, c.patterns, c.types); strings.Contains(got, "error") {
				t.Errorf("%d nodes, %v; %v: %s", size, c.patterns, c.types, got)
			}
		}
	}
	g := full(2000)
	if got := of(g, make([]int, 17), []int{varA}, []int{11}) + of(g, []int{0}, []int{varA, 2000}, []int{11, 0}) + of(g, []int{0}, []int{varA, 15}, []int{11, 0}) + of(full(2001), []int{0}, []int{2001}, nil); got != "error 2error 9error 161error 5" {
		t.Error(got)
	}
}

// Sixteen type parameters, each with a union of its own.
func TestP11_1_SixteenUnions(t *testing.T) {
	g := inRow(2)
	for k := range 16 {
		g = append(g, variable(k, 0))
	}
	g = append(g, union(1, 0))
	types := slices.Repeat([]int{18}, 16)
	if got := of(g, make([]int, 16), upTo(18)[2:], types); !strings.HasPrefix(got, listed(upTo(35)[19:])+": 19 1|0; 20 1|0;") {
		t.Error(got)
	}
	for size, want := range map[int]api.Errno{1984: api.OK, 1985: api.ErrLimit} {
		h, _, e := infer.Of(append(g, inRow(size-19)...), make([]int, 16), upTo(18)[2:], types)
		if e != want || e == api.OK && len(h) != 2000 {
			t.Errorf("%d: %d nodes, error %d", size, len(h), e)
		}
	}
}

// circle adds a circle of so many records, each of which has the next one, ahead of a type, or behind it.
func circle(g []api.GNode, n int, ahead bool, of func(i int) int) []api.GNode {
	first := len(g)
	for i := range n {
		next := first + (i+1)%n
		if ahead {
			g = append(g, record("a b", next, of(i)))
		} else {
			g = append(g, record("a b", of(i), next))
		}
	}
	return g
}

// Two circles whose lengths have no common divisor: each record of one is matched with each one of the other, each pair below the one before it.
func TestP11_2_Circles(t *testing.T) {
	for _, n := range []int{2, 3, 10, 31, 32, 33, 100, 600} {
		for _, ahead := range []bool{true, false} {
			g := with(free)
			for i := range n {
				g = append(g, tag(fmt.Sprintf("t%d", i)))
			}
			g = circle(g, n+1, ahead, func(int) int { return varA })
			g = circle(g, n, ahead, func(i int) int { return 11 + i })
			want := upTo(11 + n)[11:]
			if ahead {
				// the last pair is done first
				slices.Reverse(want)
			}
			got, e := infer.Given(g, []int{11 + n}, []int{11 + n + n + 1}, 0)
			if e != api.OK || !slices.Equal(got, want) {
				t.Errorf("circles of %d, %v: %v, error %d", n, ahead, got, e)
			}
		}
	}
}

// Records of 2000 nodes, of which almost all four million pairs lie below each other.
func TestP11_2_Deepest(t *testing.T) {
	size := 1998
	g := []api.GNode{plain(api.TDyn), variable(0, 0)}
	for i := range size {
		other := 2 + (i+2)%size
		if i == size-1 {
			other = 2
		}
		g = append(g, record("a b", 2+(i+1)%size, other))
	}
	for _, at := range []int{1001, 1500} {
		g[at] = record("a b c", g[at].L[0], g[at].L[1], at%2)
	}
	if got := given(g, []int{2}, []int{3}, 0); got != "1 0" {
		t.Error(got)
	}
	if got := of(g, []int{0}, []int{2}, []int{3}); got != "error 5" {
		t.Error(got)
	}
}

// inLine are so many records, each with the next one, and behind them others, the first of which the last record has.
func inLine(n int, others ...api.GNode) (g []api.GNode) {
	for i := range n {
		g = append(g, record("a", i+1))
	}
	return append(g, others...)
}

func TestP11_1_Lines(t *testing.T) {
	for _, n := range []int{1, 2, 3, 10, 100, 990} {
		g := inLine(n, variable(0, n))
		for i := range n {
			g = append(g, record("a b", n+2+i, 0))
		}
		g = append(g, plain(api.TNull))
		if got := of(g, []int{n}, []int{0}, []int{n + 1}); got != fmt.Sprint(2*n+1) {
			t.Errorf("%d: %s", n, got)
		}
		g = inLine(n, union(n+1, n+2), variable(0, n), variable(1, n))
		if got := of(g, []int{n}, []int{0}, []int{0}); got != "error 161" {
			t.Errorf("%d: %s", n, got)
		}
	}
}

// bounds are so many variables, each bound by the next one, and behind them an end.
func bounds(n int, end ...api.GNode) (g []api.GNode) {
	for i := range n {
		g = append(g, variable(i%16, i+1))
	}
	return append(g, end...)
}

func TestP11_1_LongBounds(t *testing.T) {
	g := bounds(1990, record("b", 1991), plain(api.TInt), record("b", 0))
	if got := of(g, []int{7}, []int{1992}, []int{0}) + ", " + of(g, []int{7}, []int{0}, []int{1}); got != "1991, 1" {
		t.Error(got)
	}
	g[1990] = variable(3, 5)
	if got := of(g, []int{7}, []int{1992}, []int{0}); got != "7" {
		t.Error(got)
	}
	// pairs of variables, each bound by the union of the next two: there are 2 to the power of 600 ways to the end
	g = nil
	for i := range 600 {
		g = append(g, variable(0, 3*i+2), variable(1, 3*i+2), union(3*i+3, 3*i+4))
	}
	g = append(g, record("b", 1802), record("b", 1803), plain(api.TInt), plain(api.TNull), record("b", 0))
	if got := of(g, []int{7}, []int{1804}, []int{2}); got != "1805: 1805 1802|1803" {
		t.Error(got)
	}
}

// besides are so many nodes, and behind them unions of almost all of these.
func besides(size, unions int, node func(i int) api.GNode) (g []api.GNode) {
	for i := range size {
		g = append(g, node(i))
	}
	for k := range unions {
		l := slices.Concat(upTo(size)[k%size:], upTo(k%size))
		g = append(g, union(slices.DeleteFunc(l, func(i int) bool { return i == (k+7)%size })...))
	}
	return g
}

// Great unions of records, each of which has the next union: all pairs of unions are met, and in each one all records of one of them.
func TestP11_1_GreatUnions(t *testing.T) {
	size := 450
	g := besides(size, size, func(i int) api.GNode { return record("a b", size+(i+1)%size, 2*size) })
	g = append(g, variable(0, 2*size))
	if got := of(g, []int{3}, []int{size}, []int{size + 1}); got != fmt.Sprint(2*size) {
		t.Error(got)
	}
	for i := range size {
		g[i] = record("a", size+(i*7+1)%size)
	}
	if got := of(g, []int{3}, []int{size}, []int{size + 1}); got != "3" {
		t.Error(got)
	}
	// each bound by the next one
	g = besides(size, size, func(i int) api.GNode { return variable(i%16, size+(i+1)%size) })
	g = append(g, plain(api.TInt), variable(0, 2*size), record("b", 2*size+1), record("b", 2*size))
	if got := of(g, []int{3}, []int{2*size + 2}, []int{size + 1}); got != "3" {
		t.Error(got)
	}
	g[5].L[0] = 2*size + 3
	if got := of(g, []int{3}, []int{2*size + 2}, []int{size + 1}); got != fmt.Sprint(2*size) {
		t.Error(got)
	}
}

// Great unions of tags, of which all but a few are left for a variable, in all pairs of a list.
func TestP11_1_GreatPatterns(t *testing.T) {
	size := 450
	g := besides(size, size, func(i int) api.GNode { return tag(fmt.Sprintf("t%d", i)) })
	g = append(g, plain(api.TNull))
	var patterns, types []int
	for i := range size {
		g = append(g, variable(i%16, 0))
		g[size+i].L = append(g[size+i].L, len(g)-1)
		for k := range size {
			patterns, types = append(patterns, size+i), append(types, size+k)
		}
	}
	h, l, e := infer.Of(g, make([]int, 16), patterns, types)
	if e != api.OK || len(h) != len(g)+16 {
		t.Fatalf("%d nodes, error %d", len(h), e)
	}
	for k, at := range l {
		// the tags that the patterns lack, and the variables
		want := (size-1-k)/16 + 1 + size
		if at != len(g)+k || len(h[at].L) != want {
			t.Errorf("%d: %d with %d members, not %d", k, at, len(h[at].L), want)
		}
	}
}

// A list that is much longer than the graph.
func TestP11_1_LongLists(t *testing.T) {
	g := full(1000)
	patterns, types := slices.Repeat([]int{varB, varA, varB}, 1000000), slices.Repeat([]int{11, tagY, tagX}, 1000000)
	if got := of(g, []int{0, 0}, patterns, types); got != "5 1000: 1000 1|3|4" {
		t.Error(got)
	}
	if got := of(g, []int{0, 0}, append(patterns, 15), append(types, dyn)) + of(g, []int{0, 0}, append(patterns, 0), append(types, -1)) + of(g, []int{0, 0}, append(patterns, 0), types); got != "error 161error 9error 2" {
		t.Error(got)
	}
	if got := given(g, patterns, types, 1); got != "1 3 4" {
		t.Error(got)
	}
}

// The greatest union there may be.
func TestP11_1_GreatestUnion(t *testing.T) {
	g := append(inRow(1997, variable(0, 0)), union(upTo(1998)...))
	h, l, e := infer.Of(g, []int{0}, []int{1997}, []int{1998})
	if e != api.OK || len(h) != 2000 || !slices.Equal(l, []int{1999}) || !slices.Equal(h[1999].L, upTo(1998)) {
		t.Errorf("%d nodes, %v, error %d", len(h), l, e)
	}
	if got := of(g, []int{0}, []int{1998}, []int{1998}); got != "1997" {
		t.Error(got)
	}
}
