package join_test

import (
	"fmt"
	"slices"
	"strings"
	"testing"

	"armillary/api"
	"armillary/join"
)

// full is a graph of so many nodes: types of all sorts, and behind them so many others that it is full.
func full(size int) []api.GNode {
	g := []api.GNode{
		plain(api.TInt), plain(api.TNull), plain(api.TDyn), plain(api.TDyn), tag("a"), union(0, 1), union(0, 1, 2), union(0, 1, 2, 4), union(0, 1, 4, 2, 3),
		record("a", 0), record("a", 1), record("a", 5), union(9, 10), union(9, 10, 11, 1), union(9, 0),
	}
	return append(g, inRow(size-len(g))...)
}

func TestP9_1_Limit(t *testing.T) {
	for size, fits := range map[int]bool{1998: true, 1999: true, 2000: false} {
		g := full(size)
		for _, l := range [][]int{{0, 1}, {5}, {5, 5, 0}, {1999 - 2, 0}, upTo(5)} {
			got := of(g, l...)
			if fits == (got == "error 5") || fits && !strings.HasPrefix(got, fmt.Sprintf("%d: %d ", size, size)) {
				t.Errorf("%d nodes, %v: %s", size, l, got)
			}
		}
		if got := of(g, 3, 3); got != "3" {
			t.Errorf("%d nodes: %s", size, got)
		}
	}
	g := full(2000)
	if got := of(g) + of(g, 0, 2000) + of(g, -1, 5); got != "error 2error 9error 9" {
		t.Error(got)
	}
	if h, at, e := join.Of(inRow(1999), upTo(1999)); e != api.OK || at != 1999 || len(h[at].L) != 1999 {
		t.Errorf("%d, error %d", at, e)
	}
}

// Each case tells how many nodes the answer has more: up to 2000 in all are not too many.
func TestP9_2_Limit(t *testing.T) {
	for _, c := range []struct {
		n     int
		shape string
		more  int
	}{
		{0, "int", 0}, {0, "rec", 0}, {2, "rec", 0}, {2, "null", 1}, {2, "'z", 1}, {5, "int", 0}, {5, "bool", 0},
		{6, "rec", 0}, {6, "int", 3}, {6, "bool", 1}, {7, "'a", 3}, {8, "bool", 3}, {8, "rec", 1}, {8, "null", 4}, {8, "'a", 4},
	} {
		for size := 1995; size <= 2000; size++ {
			got := narrow(full(size), c.n, c.shape)
			if fits := size+c.more <= 2000; fits == (got == "error 5") {
				t.Errorf("%d nodes, %d, %s: %s", size, c.n, c.shape, got)
			}
		}
	}
	if got := narrow(full(2000), 6, "x") + narrow(full(2000), 2000, "int"); got != "error 2error 9" {
		t.Error(got)
	}
}

func TestP9_2_LimitByKey(t *testing.T) {
	for _, c := range []struct {
		n     int
		shape string
		more  int
	}{
		{9, "int", 0}, {2, "int", 0}, {8, "rec", 1}, {12, "int", 0}, {13, "int", 2}, {13, "null", 2}, {13, "bool", 0}, {14, "int", 0},
	} {
		for size := 1995; size <= 2000; size++ {
			got := narrowBy(full(size), c.n, "a", c.shape)
			if fits := size+c.more <= 2000; fits == (got == "error 5") {
				t.Errorf("%d nodes, %d, %s: %s", size, c.n, c.shape, got)
			}
		}
	}
	if got := narrowBy(full(2000), 13, "A", "int") + narrowBy(full(2000), 2000, "a", "int"); got != "error 2error 9" {
		t.Error(got)
	}
}

func TestP9_3_Limit(t *testing.T) {
	for size, fits := range map[int]bool{1998: true, 1999: true, 2000: false} {
		g := full(size)
		for _, n := range []int{11, 12} {
			if got := field(g, n, "a"); fits == (got == "error 5") {
				t.Errorf("%d nodes, %d: %s", size, n, got)
			}
		}
		if got := field(g, 9, "a") + field(g, 2, "a"); got != "02" {
			t.Errorf("%d nodes: %s", size, got)
		}
	}
	if got := field(full(2000), 13, "a") + field(full(2000), 12, "b"); got != "error 160error 160" {
		t.Error(got)
	}
}

// manyDyns is a union of so many TDyn, and others.
func manyDyns(n int, others ...api.GNode) []api.GNode {
	g := append(slices.Repeat([]api.GNode{plain(api.TDyn)}, n), others...)
	return append(g, union(upTo(len(g))...))
}

func TestP9_2_ManyDyns(t *testing.T) {
	g := manyDyns(998, plain(api.TInt))
	h, yes, no, e := join.Narrow(g, 999, "int")
	if e != api.OK || len(h) != 2000 || yes != 1998 || no != 1999 || len(h[yes].L) != 999 || len(h[no].L) != 998 {
		t.Errorf("%d nodes, %d, %d, error %d", len(h), yes, no, e)
	}
	for i := range 998 {
		if h[1000+i].Kind != api.TInt || h[yes].L[i] != 1000+i {
			t.Fatalf("%d: %v, %v", i, h[1000+i], h[yes].L)
		}
	}
	if got := narrow(manyDyns(999, plain(api.TInt)), 1000, "int"); got != "error 5" {
		t.Error(got)
	}
	if got := narrow(manyDyns(1999), 1999, "int"); got != "error 5" {
		t.Error(got)
	}
	if got := narrow(manyDyns(1999), 1999, "rec") + narrowBy(manyDyns(1999), 1999, "a", "int"); got != "1999 19991999 1999" {
		t.Error(got)
	}
}

// bounds are so many variables, each bound by the next one, and behind them an end.
func bounds(n int, end api.GNode) (g []api.GNode) {
	for i := range n {
		g = append(g, variable(i%16, i+1))
	}
	return append(g, end)
}

func TestP9_2_LongBounds(t *testing.T) {
	g := bounds(1999, tag("x"))
	if got := narrow(g, 0, "'x") + ", " + narrow(g, 0, "rec") + ", " + narrowBy(g, 0, "a", "'x"); got != "0 -1, -1 0, -1 0" {
		t.Error(got)
	}
	g = bounds(1999, variable(0, 0))
	if got := narrow(g, 5, "'x") + ", " + narrowBy(g, 1999, "a", "'x"); got != "5 5, 1999 1999" {
		t.Error(got)
	}
	g = bounds(1999, record("a", 1))
	if got := narrow(g, 0, "rec") + ", " + narrowBy(g, 0, "a", "rec") + ", " + narrowBy(g, 0, "a", "int"); got != "0 -1, 0 -1, -1 0" {
		t.Error(got)
	}
}

func TestP9_3_LongBounds(t *testing.T) {
	if got := field(bounds(1999, record("a", 7)), 0, "a"); got != "7" {
		t.Error(got)
	}
	if got := field(bounds(1999, variable(0, 0)), 1000, "a"); got != "error 160" {
		t.Error(got)
	}
}

// ways are so many pairs of variables, each bound by the union of the next two: there are 2 to that power ways to the end.
func ways(n int, end ...api.GNode) (g []api.GNode) {
	for i := range n {
		g = append(g, variable(0, 3*i+2), variable(1, 3*i+2), union(3*i+3, 3*i+4))
	}
	return append(g, end...)
}

func TestP9_2_ManyWays(t *testing.T) {
	g := ways(600, plain(api.TInt), plain(api.TNull))
	if got := narrow(g, 0, "int") + ", " + narrow(g, 1, "rec") + ", " + narrowBy(g, 2, "a", "int"); got != "0 0, -1 1, -1 2" {
		t.Error(got)
	}
	g = ways(600, plain(api.TInt), plain(api.TInt))
	if got := narrow(g, 0, "int") + ", " + narrow(g, 2, "null"); got != "0 -1, -1 2" {
		t.Error(got)
	}
	g = ways(600, record("a", 0), record("a", 1800))
	if got := narrowBy(g, 0, "a", "rec"); got != "0 -1" {
		t.Error(got)
	}
}

func TestP9_3_ManyWays(t *testing.T) {
	if got := field(ways(600, record("a", 0), record("a b", 1, 2)), 2, "a"); got != "1802: 1802 0|1" {
		t.Error(got)
	}
	if got := field(ways(600, record("a", 0), plain(api.TInt)), 2, "a"); got != "error 160" {
		t.Error(got)
	}
}

// besides lays unions of almost all nodes behind these; each is a bound, or a field.
func besides(size int, node func(i int) api.GNode) (g []api.GNode) {
	for i := range size {
		g = append(g, node(i))
	}
	for k := range size - 2 {
		g = append(g, union(slices.DeleteFunc(upTo(size), func(i int) bool { return i == k })...))
	}
	return g
}

func TestP9_2_GreatUnions(t *testing.T) {
	// each variable is bound by those behind it, and in the end by one type
	size := 900
	g := besides(size, func(i int) api.GNode { return variable(i%16, size+i) })
	g[size-1], g[size-2] = tag("x"), tag("x")
	for k := range size - 2 {
		g[size+k].L = upTo(size)[k+1:]
	}
	if got := narrow(g, 0, "'x") + ", " + narrow(g, size, "int") + ", " + narrowBy(g, size, "a", "int"); got != fmt.Sprintf("0 -1, -1 %d, -1 %d", size, size) {
		t.Error(got)
	}
	// each variable is bound by almost all, itself among them
	g = besides(size, func(i int) api.GNode { return variable(i%16, size+i*7%(size-2)) })
	if got := narrow(g, 0, "'x") + ", " + narrowBy(g, size, "a", "int"); got != fmt.Sprintf("0 0, %d %d", size, size) {
		t.Error(got)
	}
	// records of unions of almost all records
	g = besides(size, func(i int) api.GNode { return record("a", size+i*7%(size-2)) })
	if got := narrowBy(g, size, "a", "rec"); got != fmt.Sprintf("%d -1", size) {
		t.Error(got)
	}
	if h, at, e := join.Field(g, size, "a"); e != api.OK || len(h) != len(g)+1 || len(h[at].L) != size {
		t.Errorf("%d, error %d", at, e)
	}
}

// A list that is much longer than the graph, of unions that are almost as great.
func TestP9_1_LongList(t *testing.T) {
	g := besides(1000, func(i int) api.GNode { return plain(api.TInt) })
	l := slices.Repeat(upTo(1998), 1000)
	slices.Reverse(l)
	h, at, e := join.Of(g, l)
	if e != api.OK || at != 1998 || len(h[at].L) != 1000 || h[at].L[0] != 0 || h[at].L[999] != 997 {
		t.Errorf("%d, error %d", at, e)
	}
	if got := of(g, append(l, -1)...); got != "error 9" {
		t.Error(got)
	}
	if got := of(g, slices.Repeat([]int{5}, 1000000)...); got != "5" {
		t.Error(got)
	}
}
