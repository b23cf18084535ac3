package fact_test

import (
	"fmt"
	"math/rand"
	"slices"
	"testing"

	"armillary/api"
	"armillary/fact"
	"armillary/sub"
)

// chain is a record in a record, and so on: so many, and behind them an end.
func chain(n int, end api.GNode) (g []api.GNode) {
	for i := range n {
		g = append(g, record("a", i+1))
	}
	return append(g, end)
}

// circle is so many records in a circle, the first of which is at a position.
func circle(at, n int) (g []api.GNode) {
	for i := range n {
		g = append(g, record("a", at+(i+1)%n))
	}
	return g
}

func upTo(n int) (l []int) {
	for i := range n {
		l = append(l, i)
	}
	return l
}

// count tells how many facts are found for pairs, all of which hold and are where their pairs are; or the error.
func count(t *testing.T, g []api.GNode, pairs ...[2]int) string {
	t.Helper()
	l, at, e := fact.Find(g, pairs)
	if e != api.OK {
		return told(l, at, e)
	}
	if k, e := fact.First(g, l); k != -1 || e != api.OK {
		return fmt.Sprintf("%d does not hold, error %d", k, e)
	}
	for i, p := range pairs {
		if l[at[i]].A != p[0] || l[at[i]].B != p[1] {
			return fmt.Sprintf("%v is not at %d", p, at[i])
		}
	}
	return fmt.Sprintf("%d", len(l))
}

// In a circle of 2000 records, each pair leads to 2000 of them; there are 2000 pairs of each distance.
func TestP12_2_Limit(t *testing.T) {
	g := circle(0, 2000)
	four := [][2]int{{0, 0}, {7, 8}, {1, 3}, {1999, 2}}
	for _, c := range []struct {
		what  string
		pairs [][2]int
		want  string
	}{
		{"one", four[:1], "2000"}, {"three", four[1:], "6000"}, {"four", four, "8000"},
		{"others that are there", append(slices.Clone(four), [2]int{500, 502}, [2]int{0, 0}), "8000"},
		{"five", append(slices.Clone(four), [2]int{0, 4}), "error 5"},
		{"five, one ahead", append([][2]int{{0, 4}}, four...), "error 5"},
	} {
		if got := count(t, g, c.pairs...); got != c.want {
			t.Errorf("%s: %s, not %s", c.what, got, c.want)
		}
	}
	// types that lead to nothing are one fact each
	g = append(circle(0, 1998), plain(api.TInt), tag("x"))
	four = [][2]int{{0, 0}, {7, 8}, {1, 3}, {1997, 2}}
	ends := [][2]int{{1998, 1998}, {1999, 1999}}
	if got := count(t, g, append(slices.Clone(four), ends...)...); got != "7994" {
		t.Error(got)
	}
}

// Two circles that have no common divisor lead to as many facts as there are pairs of one with the other one.
func TestP12_2_LimitOfOnePair(t *testing.T) {
	for _, c := range []struct {
		n, m int
		want string
	}{{125, 64, "8000"}, {89, 90, "error 5"}, {127, 63, "error 5"}, {124, 63, "7812"}, {1, 1999, "1999"}, {2, 1997, "3994"}, {999, 1001, "error 5"}} {
		g := append(circle(0, c.n), circle(c.n, c.m)...)
		if got := count(t, g, [2]int{0, c.n}); got != c.want {
			t.Errorf("%d with %d: %s, not %s", c.n, c.m, got, c.want)
		}
	}
	// 8000 of a pair, and another pair that is new, or is not
	g := append(circle(0, 125), circle(125, 64)...)
	g = append(g, plain(api.TInt))
	first := [2]int{0, 125}
	if got := count(t, g, first, [2]int{124, 188}); got != "8000" {
		t.Error(got)
	}
	for _, pairs := range [][][2]int{{first, {189, 189}}, {{189, 189}, first}} {
		if got := count(t, g, pairs...); got != "error 5" {
			t.Errorf("%v: %s", pairs, got)
		}
	}
	// the type is asked for ahead of the limit
	for _, pairs := range [][][2]int{{first, {189, 189}, {189, 0}}, {{0, 189}, first, {189, 189}}} {
		if got := count(t, g, pairs...); got != "error 160" {
			t.Errorf("%v: %s", pairs, got)
		}
	}
	if got := count(t, g, first, [2]int{189, 189}, [2]int{189, 0}, [2]int{0, 190}); got != "error 9" {
		t.Error(got)
	}
}

func TestP12_2_LongChain(t *testing.T) {
	g := chain(1999, plain(api.TInt))
	l, at, e := fact.Find(g, [][2]int{{0, 0}})
	if e != api.OK || len(l) != 2000 || at[0] != 0 {
		t.Fatalf("%d facts at %v, error %d", len(l), at, e)
	}
	for k, f := range l {
		want := of(k, k, 0, k+1)
		if k == 1999 {
			want = of(k, k, 0)
		}
		if !fact.Same([]api.Fact{f}, []api.Fact{want}) {
			t.Fatalf("fact %d: %v", k, f)
		}
	}
	if fact.Casts(g, l, 0) {
		t.Error("casts")
	}
	g = append(chain(998, plain(api.TDyn)), chain(0, plain(api.TInt))...)
	for i := range 999 {
		g = append(g, record("a", 1000+i-1))
	}
	// records of dyn for records of int: as many around the one as around the other one
	l, at, e = fact.Find(g, [][2]int{{0, 1997}})
	if e != api.OK || len(l) != 999 {
		t.Fatalf("%d facts at %v, error %d", len(l), at, e)
	}
	for k := range l {
		if !fact.Casts(g, l, k) || !fact.Holds(g, l, k) {
			t.Fatalf("%d of %d", k, len(l))
		}
	}
}

func TestP12_2_LongBounds(t *testing.T) {
	var g []api.GNode
	for i := range 1999 {
		g = append(g, variable(i%16, i+1))
	}
	g = append(g, plain(api.TInt))
	for _, c := range []struct {
		pair [2]int
		want string
	}{{[2]int{0, 1999}, "2000"}, {[2]int{0, 1000}, "2000"}, {[2]int{1999, 0}, "error 160"}, {[2]int{1000, 1000}, "1000"}} {
		if got := count(t, g, c.pair); got != c.want {
			t.Errorf("%v: %s, not %s", c.pair, got, c.want)
		}
	}
	g[1999] = variable(3, 0)
	if got := count(t, g, [2]int{5, 5}); got != "2000" {
		t.Errorf("a circle: %s", got)
	}
}

func TestP12_2_GreatUnions(t *testing.T) {
	var g []api.GNode
	for i := range 1998 {
		g = append(g, tag(fmt.Sprintf("t%d", i)))
	}
	back := upTo(1998)
	slices.Reverse(back)
	g = append(g, union(upTo(1998)...), union(back...))
	l, at, e := fact.Find(g, [][2]int{{1998, 1999}, {1999, 1998}})
	if e != api.OK || len(l) != 2*1999 || at[1] != 1999 {
		t.Fatalf("%d facts at %v, error %d", len(l), at, e)
	}
	if l[1].Why[0] != 1997 || l[1998].Why[0] != 0 || l[0].Why[1997] != 1998 || l[1999].Why[0] != 2000 {
		t.Errorf("%v, %v, %v, %v", l[1], l[1998], l[0].Why[1997], l[1999].Why[0])
	}
	if k, e := fact.First(g, l); k != -1 || e != api.OK {
		t.Errorf("%d, error %d", k, e)
	}
	g = append(g[:1998], union(upTo(1998)...), record("a b c d e", slices.Repeat([]int{1998}, 5)...))
	if got := count(t, g, [2]int{1999, 1999}, [2]int{1998, 1998}, [2]int{5, 1998}); got != "2000" {
		t.Error(got)
	}
	// a thousand unions of a thousand records of them: whatever is on the left, the first record of the first two is on the right
	g = nil
	for i := range 1000 {
		g = append(g, record("a", 1000+i))
	}
	for i := range 1000 {
		g = append(g, union(slices.DeleteFunc(upTo(1000), func(k int) bool { return k == i })...))
	}
	if got := count(t, g, [2]int{1002, 1001}); got != "4000" {
		t.Error(got)
	}
	// a union for each other one leads to itself and its records
	pairs := [][2]int{{1002, 1001}, {1001, 1007}, {5, 1008}, {1003, 1008}, {1004, 1009}, {1005, 1010}}
	if got := count(t, g, pairs...); got != "8000" {
		t.Error(got)
	}
	if got := count(t, g, append(pairs, [2]int{7, 7})...); got != "error 5" {
		t.Error(got)
	}
}

func TestP12_2_LongLists(t *testing.T) {
	g := inRow(2000)
	var pairs [][2]int
	for i := range 8000 {
		pairs = append(pairs, [2]int{i % 2000, (i + i/2000) % 2000})
	}
	if got := count(t, g, slices.Repeat(pairs, 50)...); got != "8000" {
		t.Error(got)
	}
	if got := count(t, g, append(slices.Repeat(pairs, 50), [2]int{0, 4})...); got != "error 5" {
		t.Error(got)
	}
	for a := range g {
		for b := range g {
			pairs = append(pairs, [2]int{a, b})
		}
	}
	if got := count(t, g, pairs...); got != "error 5" {
		t.Error(got)
	}
	g[1999] = plain(api.TNull)
	if got := count(t, g, pairs...); got != "error 160" {
		t.Error(got)
	}
	if got := count(t, g, append(pairs, [2]int{0, 2000})...); got != "error 9" {
		t.Error(got)
	}
}

// Facts that refer to each other in a long row, in a circle, and all to all.
func TestP12_1_GreatLists(t *testing.T) {
	g := []api.GNode{record("a", 0), plain(api.TDyn), plain(api.TInt), record("a", 2)}
	var l []api.Fact
	for k := range 8000 {
		l = append(l, of(0, 0, 0, (k+1)%8000))
	}
	if k, e := fact.First(g, l); k != -1 || e != api.OK || fact.Casts(g, l, 0) || !fact.Holds(g, l, 7999) {
		t.Errorf("%d, error %d", k, e)
	}
	l[7998] = of(1, 2, 0)
	if k, e := fact.First(g, l); k != 7997 || e != api.OK || !fact.Casts(g, l, 0) || !fact.Casts(g, l, 7999) {
		t.Errorf("%d, error %d", k, e)
	}
	l[7999] = of(2, 2, 0)
	if fact.Casts(g, l, 7999) || !fact.Casts(g, l, 7998) {
		t.Error("casts")
	}
	var tags []api.GNode
	for i := range 1999 {
		tags = append(tags, tag(fmt.Sprintf("t%d", i)))
	}
	g = append(tags, union(upTo(1999)...))
	for k := range l {
		l[k] = of(1999, 1999, slices.Repeat([]int{k}, 1999)...)
		for i := range l[k].Why {
			l[k].Why[i] = (k*1999 + i) % 8000
		}
	}
	if k, e := fact.First(g, l); k != 0 || e != api.OK || fact.Casts(g, l, 0) {
		t.Errorf("%d, error %d", k, e)
	}
}

// In a great graph there are many facts by each rule.
func TestP12_6_GreatGraphs(t *testing.T) {
	r := maker{rand.New(rand.NewSource(7))}
	for range 6 {
		g := r.graph(100+r.Intn(100), true)
		below, _ := sub.All(g, false)
		for range 5 {
			var pairs [][2]int
			for len(pairs) < 20 {
				if p := [2]int{r.Intn(len(g)), r.Intn(len(g))}; below[p[0]][p[1]] {
					pairs = append(pairs, p)
				}
			}
			l, at, e := fact.Find(g, pairs)
			if e == api.ErrLimit {
				continue
			}
			if k, e := fact.First(g, l); k != -1 || e != api.OK || len(at) != 20 {
				t.Fatalf("%d of %d, error %d: %s", k, len(l), e, show(g))
			}
			if len(l) < 500 {
				if got, want := told(l, at, e), found(g, pairs); got != want {
					t.Fatalf("%v: %s, not %s", pairs, got, want)
				}
			}
		}
	}
}
