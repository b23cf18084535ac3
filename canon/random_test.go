package canon_test

import (
	"cmp"
	"math/rand"
	"slices"
	"strings"
	"testing"

	"armillary/api"
	"armillary/canon"
	"armillary/graph"
)

// A reading answers as the chapter's definitions say, without regard to time.
type reading struct {
	g     []api.GNode
	forms map[question]int
}

// A question is how the depth-n forms of two nodes that are not unions are ordered.
type question struct{ depth, a, b int }

func newReading(g []api.GNode) reading { return reading{g, map[question]int{}} }

// members are those of graph.Members.
func (r reading) members(n int) []int {
	if r.g[n].Kind == api.TUnion {
		return slices.Clone(r.g[n].L)
	}
	return []int{n}
}

// order compares the forms of two nodes at the smallest depth, up to this one, at which they differ.
func (r reading) order(depth, a, b int) int {
	for d := range depth + 1 {
		if c := r.at(d, a, b); c != 0 {
			return c
		}
	}
	return 0
}

// at compares the forms at one depth, if they do not differ at smaller ones.
func (r reading) at(depth, a, b int) int {
	if depth == 0 {
		return 0
	}
	q := question{depth, a, b}
	c, ok := r.forms[q]
	if !ok {
		c = r.differ(depth, r.g[a], r.g[b])
		r.forms[q] = c
	}
	return c
}

func (r reading) differ(depth int, a, b api.GNode) int {
	if c := cmp.Compare(a.Kind, b.Kind); c != 0 {
		return c
	}
	if c := cmp.Compare(a.Num, b.Num); c != 0 {
		return c
	}
	if c := strings.Compare(a.Name, b.Name); c != 0 {
		return c
	}
	if c := cmp.Compare(len(a.Keys), len(b.Keys)); c != 0 {
		return c
	}
	for i := range a.Keys {
		if c := strings.Compare(a.Keys[i], b.Keys[i]); c != 0 {
			return c
		}
	}
	for i := range a.L {
		if c := r.lists(depth-1, a.L[i], b.L[i]); c != 0 {
			return c
		}
	}
	return 0
}

// lists compares the increasing lists of the forms of the members of two types.
func (r reading) lists(depth, a, b int) int {
	x, y := r.list(depth, a), r.list(depth, b)
	for i := range min(len(x), len(y)) {
		if c := r.order(depth, x[i], y[i]); c != 0 {
			return c
		}
	}
	return cmp.Compare(len(x), len(y))
}

// list returns a member for each form.
func (r reading) list(depth, n int) []int {
	l := r.members(n)
	slices.SortFunc(l, func(a, b int) int { return r.order(depth, a, b) })
	return slices.CompactFunc(l, func(a, b int) bool { return r.order(depth, a, b) == 0 })
}

// equal tells for each two types whether no difference is ever found.
func (r reading) equal() [][]bool {
	same := make([][]bool, len(r.g))
	for a := range r.g {
		same[a] = slices.Repeat([]bool{true}, len(r.g))
	}
	for found := true; found; {
		found = false
		for a := range r.g {
			for b := range r.g {
				if same[a][b] && r.difference(same, a, b) {
					same[a][b], found = false, true
				}
			}
		}
	}
	return same
}

// difference tells whether two types differ if those are equal that are held so.
func (r reading) difference(same [][]bool, a, b int) bool {
	x, y := r.g[a], r.g[b]
	if x.Kind == api.TUnion || y.Kind == api.TUnion {
		return !within(same, r.members(a), r.members(b)) || !within(same, r.members(b), r.members(a))
	}
	if x.Kind != y.Kind || x.Num != y.Num || x.Name != y.Name || !slices.Equal(x.Keys, y.Keys) {
		return true
	}
	for i := range x.L {
		if !same[x.L[i]][y.L[i]] {
			return true
		}
	}
	return false
}

func within(same [][]bool, l, all []int) bool {
	for _, a := range l {
		if !slices.ContainsFunc(all, func(b int) bool { return same[a][b] }) {
			return false
		}
	}
	return true
}

// A maker makes graphs at random.
type maker struct{ *rand.Rand }

func (r maker) one(names string) string {
	l := strings.Fields(names)
	return l[r.Intn(len(l))]
}

// graph makes a valid graph in which many types are equal, or differ late.
func (r maker) graph() []api.GNode {
	g := make([]api.GNode, 1+r.Intn(12))
	unions := r.Intn(4)
	for n := range g {
		if n > 1 && r.Intn(6) < unions {
			g[n] = plain(api.TUnion)
		} else {
			g[n] = r.node(len(g))
		}
	}
	for n := range g {
		if g[n].Kind == api.TUnion {
			r.fill(g, n)
		}
	}
	return g
}

func (r maker) node(size int) api.GNode {
	at := func() int { return r.Intn(size) }
	switch r.Intn(12) {
	case 0:
		return plain(1 + r.Intn(4))
	case 1:
		return tag(r.one("a b"))
	case 2, 3:
		return variable(r.Intn(2), at())
	case 4, 5, 6:
		return record("a b", at(), at())
	case 7:
		return record(r.one("a b"), at())
	}
	return record("a", at())
}

// fill gives a union its members, or makes it another node if there are too few.
func (r maker) fill(g []api.GNode, n int) {
	var l []int
	for _, m := range r.Perm(len(g)) {
		if g[m].Kind != api.TUnion {
			l = append(l, m)
		}
	}
	if len(l) < 2 {
		g[n] = plain(api.TNull)
		return
	}
	g[n].L = l[:2+r.Intn(min(len(l)-1, 3))]
}

// roots are some nodes, some of them twice.
func (r maker) roots(g []api.GNode) (l []int) {
	for range r.Intn(4) + 1 {
		l = append(l, r.Intn(len(g)))
	}
	return l
}

// graphs calls a test with many graphs.
func graphs(t *testing.T, times int, test func(r maker, g []api.GNode)) {
	for seed := range times {
		r := maker{rand.New(rand.NewSource(int64(seed)))}
		g := r.graph()
		if e := graph.Check(g); e != api.OK {
			t.Fatalf("%s: error %d", show(g), e)
		}
		test(r, g)
		if t.Failed() {
			t.Fatalf("seed %d: %s", seed, show(g))
		}
	}
}

// together lays a graph behind another one.
func together(g, h []api.GNode) []api.GNode {
	all := graph.Copy(g)
	for _, n := range graph.Copy(h) {
		for i := range n.L {
			n.L[i] += len(g)
		}
		all = append(all, n)
	}
	return all
}

// walk returns the nodes of a graph in the order in which they are reached.
func walk(g []api.GNode, roots []int) (l []int) {
	var reach func(n int)
	reach = func(n int) {
		if slices.Contains(l, n) {
			return
		}
		l = append(l, n)
		for _, child := range g[n].L {
			reach(child)
		}
	}
	for _, n := range roots {
		reach(n)
	}
	return l
}

// The canonical graph has all that its definition asks for, and nothing else.
func TestP7_1_AsDefined(t *testing.T) {
	most := 0
	graphs(t, 6000, func(r maker, g []api.GNode) {
		roots := r.roots(g)
		h, at, e := canon.Of(g, roots)
		if e != api.OK || len(at) != len(roots) {
			t.Fatalf("roots %v: %v, error %d", roots, at, e)
		}
		most = max(most, len(h))
		all := newReading(together(g, h))
		same := all.equal()
		for i, n := range roots {
			if !same[n][len(g)+at[i]] {
				t.Errorf("root %d is not equal to %d of %s", n, at[i], show(h))
			}
		}
		if !slices.Equal(walk(h, at), upTo(len(h))) {
			t.Errorf("numbers: %s at %v", show(h), at)
		}
		for n := range h {
			checkNode(t, all, same, len(g), n)
		}
	})
	if most < 8 {
		t.Errorf("at most %d nodes", most)
	}
}

// checkNode tells whether a node behind a graph is equal to no other one, and its members, if it is a union, are in their order.
func checkNode(t *testing.T, all reading, same [][]bool, behind, n int) {
	for m := behind; m < behind+n; m++ {
		if same[behind+n][m] {
			t.Errorf("%d and %d are equal: %s", n, m-behind, show(all.g))
		}
	}
	node := all.g[behind+n]
	if node.Kind != api.TUnion {
		return
	}
	for i := range node.L[1:] {
		if all.order(len(all.g), node.L[i], node.L[i+1]) != -1 {
			t.Errorf("members of %d: %s", n, show(all.g))
		}
	}
}

func TestP7_2_AsDefined(t *testing.T) {
	equal, less := 0, 0
	graphs(t, 3000, func(r maker, g []api.GNode) {
		read := newReading(g)
		same := read.equal()
		for a := range g {
			for b := range g {
				if a != b && same[a][b] {
					equal++
				}
				if got := canon.One(g, a, b); got != same[a][b] {
					t.Errorf("%d and %d: equal %t", a, b, got)
				}
				want := 0
				if g[a].Kind != api.TUnion && g[b].Kind != api.TUnion {
					want = read.order(len(g), a, b)
				}
				if want != 0 && read.order(2, a, b) == 0 {
					less++
				}
				if got := canon.Compare(g, a, b); got != want {
					t.Errorf("%d and %d: %d", a, b, got)
				}
			}
		}
	})
	if equal < 1000 || less < 1000 {
		t.Errorf("%d are equal, %d differ late", equal, less)
	}
}

func TestP7_3_AsDefined(t *testing.T) {
	good := 0
	graphs(t, 6000, func(r maker, g []api.GNode) {
		roots := r.roots(g)
		h, at, _ := canon.Of(g, roots)
		want := api.ErrArg
		if graph.Same(g, h) {
			want = api.OK
			good++
		}
		if e := canon.Check(g, roots); e != want {
			t.Errorf("roots %v: error %d", roots, e)
		}
		// the same roots in another order are not reached in the same order
		slices.Reverse(at)
		want = api.ErrArg
		if slices.Equal(walk(h, at), upTo(len(h))) {
			want = api.OK
		}
		if e := canon.Check(h, at); e != want {
			t.Errorf("%s, roots %v: error %d", show(h), at, e)
		}
		both := canon.Join(g, h)
		if !graph.Same(both, together(g, h)) || graph.Check(both) != api.OK {
			t.Errorf("Join: %s", show(both))
		}
	})
	if good == 0 {
		t.Error("no canonical graph")
	}
}

// scramble makes a graph with other nodes whose roots are equal.
func (r maker) scramble(g []api.GNode, roots []int) ([]api.GNode, []int) {
	g, roots = graph.Copy(g), slices.Clone(roots)
	copies := map[int][]int{}
	for n := range g {
		copies[n] = []int{n}
	}
	for range r.Intn(6) {
		n := r.Intn(len(g))
		if n < len(copies) {
			copies[n] = append(copies[n], len(g))
			g = append(g, graph.Copy(g[n:n+1])...)
		}
	}
	other := func(n int) int {
		if l, ok := copies[n]; ok {
			return l[r.Intn(len(l))]
		}
		return n
	}
	for n := range g {
		r.others(g, n, copies, other)
	}
	g = append(g, r.ones(g, copies)...)
	for i, n := range roots {
		roots[i] = other(n)
	}
	return r.renumber(append(g, tag("unused")), roots)
}

// others lets a node have copies as children, or as more members.
func (r maker) others(g []api.GNode, n int, copies map[int][]int, other func(int) int) {
	var l []int
	for _, child := range g[n].L {
		if g[n].Kind == api.TUnion && r.Intn(2) == 0 {
			l = append(l, copies[child]...)
		} else {
			l = append(l, other(child))
		}
	}
	g[n].L = l
	if g[n].Kind == api.TUnion {
		r.Shuffle(len(l), func(i, j int) { l[i], l[j] = l[j], l[i] })
	}
}

// ones returns unions of copies, and puts them in the place of these, where they may be.
func (r maker) ones(g []api.GNode, copies map[int][]int) (l []api.GNode) {
	for n := range len(copies) {
		if g[n].Kind == api.TUnion || len(copies[n]) < 2 {
			continue
		}
		at := len(g) + len(l)
		l = append(l, union(copies[n]...))
		for _, node := range g {
			for i, child := range node.L {
				if node.Kind != api.TUnion && child == n && r.Intn(2) == 0 {
					node.L[i] = at
				}
			}
		}
	}
	return l
}

// renumber puts the nodes in another order.
func (r maker) renumber(g []api.GNode, roots []int) ([]api.GNode, []int) {
	to := r.Perm(len(g))
	h := make([]api.GNode, len(g))
	for n, node := range g {
		for i, child := range node.L {
			node.L[i] = to[child]
		}
		h[to[n]] = node
	}
	for i, n := range roots {
		roots[i] = to[n]
	}
	return h, roots
}

func TestP7_5_EqualRoots(t *testing.T) {
	graphs(t, 6000, func(r maker, g []api.GNode) {
		roots := r.roots(g)
		h, at, e := canon.Of(g, roots)
		for range 3 {
			g2, roots2 := r.scramble(g, roots)
			if e := graph.Check(g2); e != api.OK {
				t.Fatalf("scrambled as %s: error %d", show(g2), e)
			}
			h2, at2, e2 := canon.Of(g2, roots2)
			if e2 != e || !graph.Same(h2, h) || !slices.Equal(at2, at) {
				t.Errorf("%v: %s at %v, not %s at %v as for %s, %v", roots, show(h), at, show(h2), at2, show(g2), roots2)
			}
		}
	})
}

// Roots have the same canonical graph if, and only if, they are equal: roots of one graph, or of two.
func TestP7_5_OneRoot(t *testing.T) {
	graphs(t, 1000, func(r maker, g []api.GNode) {
		h := r.graph()
		same := newReading(together(g, h)).equal()
		alone := func(g []api.GNode, n int) []api.GNode {
			g, _, _ = canon.Of(g, []int{n})
			return g
		}
		for a := range g {
			for b := range g {
				if graph.Same(alone(g, a), alone(g, b)) != same[a][b] {
					t.Errorf("%d and %d: not %t", a, b, same[a][b])
				}
			}
			for b := range h {
				if graph.Same(alone(g, a), alone(h, b)) != same[a][len(g)+b] {
					t.Errorf("%d and %d of %s: not %t", a, b, show(h), same[a][len(g)+b])
				}
			}
		}
	})
}

func TestP7_6_Itself(t *testing.T) {
	graphs(t, 6000, func(r maker, g []api.GNode) {
		roots := r.roots(g)
		h, at, _ := canon.Of(g, roots)
		if e := graph.Check(h); e != api.OK {
			t.Fatalf("%s: error %d", show(h), e)
		}
		for a := range h {
			for b := range h {
				if canon.One(h, a, b) != (a == b) {
					t.Errorf("%d and %d: equal %t: %s", a, b, a != b, show(h))
				}
			}
		}
		h2, at2, e := canon.Of(h, at)
		if e != api.OK || !graph.Same(h, h2) || !slices.Equal(at, at2) || canon.Check(h, at) != api.OK {
			t.Errorf("%s at %v, then %s at %v", show(h), at, show(h2), at2)
		}
		both := canon.Join(g, h)
		for i, n := range roots {
			if !canon.One(both, n, len(g)+at[i]) {
				t.Errorf("root %d is not equal to %d of %s", n, at[i], show(h))
			}
		}
	})
}

func TestP7_7_TotalOrder(t *testing.T) {
	graphs(t, 1000, func(r maker, g []api.GNode) {
		var l []int
		for n := range g {
			if g[n].Kind != api.TUnion {
				l = append(l, n)
			}
		}
		for _, a := range l {
			for _, b := range l {
				c := canon.Compare(g, a, b)
				if c != -canon.Compare(g, b, a) || (c == 0) != canon.One(g, a, b) {
					t.Errorf("%d and %d: %d", a, b, c)
				}
				for _, d := range l {
					if c <= 0 && canon.Compare(g, b, d) <= 0 && canon.Compare(g, a, d) != min(c, canon.Compare(g, b, d)) {
						t.Errorf("%d, %d and %d", a, b, d)
					}
				}
			}
		}
	})
}

// What is beside two types, or above them, does not matter, nor how often what is below them is there.
func TestP7_7_RestOfTheGraph(t *testing.T) {
	graphs(t, 1500, func(r maker, g []api.GNode) {
		rest := r.graph()
		behind, above := canon.Join(rest, g), canon.Join(g, rest)
		for n := range g {
			above = append(above, record("z", n))
		}
		spread, at := r.scramble(g, upTo(len(g)))
		for a := range g {
			for b := range g {
				want := canon.Compare(g, a, b)
				if got := canon.Compare(above, a, b); got != want {
					t.Errorf("%d and %d of %s: %d", a, b, show(above), got)
				}
				if got := canon.Compare(behind, len(rest)+a, len(rest)+b); got != want {
					t.Errorf("%d and %d behind %s: %d", a, b, show(rest), got)
				}
				if got := canon.Compare(spread, at[a], at[b]); got != want {
					t.Errorf("%d and %d as %d and %d of %s: %d", a, b, at[a], at[b], show(spread), got)
				}
			}
		}
	})
}
