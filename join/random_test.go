package join_test

import (
	"math/rand"
	"slices"
	"strings"
	"testing"

	"armillary/api"
	"armillary/canon"
	"armillary/graph"
	"armillary/join"
	"armillary/sub"
)

// A reading tells what is left of types as the chapter's definitions say, without regard to time.
type reading struct {
	g     []api.GNode
	basic func(n int) (yes, no bool) // of what is no union and no variable
}

// byShape reads the table of narrowing by a shape.
func byShape(g []api.GNode, shape string) reading {
	kinds := map[string]int{"null": api.TNull, "bool": api.TBool, "int": api.TInt, "rec": api.TRec}
	return reading{g, func(n int) (yes, no bool) {
		if g[n].Kind == api.TDyn {
			return true, true
		}
		yes = g[n].Kind == kinds[shape] || g[n].Kind == api.TTag && "'"+g[n].Name == shape
		return yes, !yes
	}}
}

func byKey(g []api.GNode, key, shape string) reading {
	return reading{g, func(n int) (yes, no bool) {
		at := slices.Index(g[n].Keys, key)
		switch {
		case g[n].Kind == api.TDyn:
			return true, true
		case at < 0:
			return false, true
		}
		return byShape(g, shape).leaves(g[n].L[at])
	}}
}

// below are all nodes that are reached from a type through bounds and unions alone.
func below(g []api.GNode, t int) []int {
	l := []int{t}
	for i := 0; i < len(l); i++ {
		if n := g[l[i]]; n.Kind == api.TUnion || n.Kind == api.TVar {
			for _, m := range n.L {
				if !slices.Contains(l, m) {
					l = append(l, m)
				}
			}
		}
	}
	return l
}

// circular tells whether a node is a variable that is reached again from its bound.
func circular(g []api.GNode, n int) bool {
	return g[n].Kind == api.TVar && slices.Contains(below(g, g[n].L[0]), n)
}

func (r reading) leaves(t int) (yes, no bool) {
	for _, n := range below(r.g, t) {
		y, o := false, false
		switch r.g[n].Kind {
		case api.TUnion:
		case api.TVar:
			y = circular(r.g, n)
			o = y
		default:
			y, o = r.basic(n)
		}
		yes, no = yes || y, no || o
	}
	return yes, no
}

// united grows a graph by the join of nodes that are not unions.
func united(g []api.GNode, l []int) ([]api.GNode, int) {
	var once []int
	for _, n := range l {
		if !slices.Contains(once, n) {
			once = append(once, n)
		}
	}
	if len(once) == 1 {
		return g, once[0]
	}
	return append(g, union(once...)), len(g)
}

// restricted grows a graph by the restriction of a type to nodes, among which may be new ones.
func restricted(g []api.GNode, t int, l []int) ([]api.GNode, int) {
	if len(l) == 0 {
		return g, -1
	}
	if slices.Equal(l, graph.Members(g, t)) {
		return g, t
	}
	return united(g, l)
}

// narrowed is what Narrow, or NarrowBy, is to return; dyn is what stands for TDyn in yes, if anything does.
func (r reading) narrowed(t int, dyn *api.GNode) (h []api.GNode, yes, no int) {
	h = graph.Copy(r.g)
	var left, others []int
	for _, n := range graph.Members(r.g, t) {
		y, o := r.leaves(n)
		if y && dyn != nil && r.g[n].Kind == api.TDyn {
			h = append(h, *dyn)
			left = append(left, len(h)-1)
		} else if y {
			left = append(left, n)
		}
		if o {
			others = append(others, n)
		}
	}
	h, yes = restricted(h, t, left)
	h, no = restricted(h, t, others)
	return h, yes, no
}

// fields returns the types that make the field of a type; path are the variables in whose bounds it is.
func fields(g []api.GNode, t int, key string, path []int) (l []int, ok bool) {
	for _, n := range graph.Members(g, t) {
		at := slices.Index(g[n].Keys, key)
		switch {
		case g[n].Kind == api.TDyn:
			l = append(l, n)
		case g[n].Kind == api.TRec && at >= 0:
			l = append(l, g[n].L[at])
		case g[n].Kind == api.TVar && !slices.Contains(path, n):
			more, ok := fields(g, g[n].L[0], key, append(slices.Clone(path), n))
			if !ok {
				return nil, false
			}
			l = append(l, more...)
		default:
			return nil, false
		}
	}
	return l, true
}

// joinOf is what Of is to return.
func joinOf(g []api.GNode, types []int) ([]api.GNode, int) {
	var l []int
	for _, t := range types {
		l = append(l, graph.Members(g, t)...)
	}
	return united(graph.Copy(g), l)
}

// A maker makes graphs at random.
type maker struct{ *rand.Rand }

// graph makes a valid graph with many variables, some of which lead back to themselves; with dyn, or without.
func (r maker) graph(dyn bool) []api.GNode {
	g := make([]api.GNode, 2+r.Intn(12))
	unions := 1 + r.Intn(3)
	for n := range g {
		if n > 1 && r.Intn(6) < unions {
			g[n] = plain(api.TUnion)
		} else {
			g[n] = r.node(n, len(g), dyn)
		}
	}
	for n := range g {
		if g[n].Kind == api.TUnion {
			r.fill(g, n)
		}
	}
	return g
}

// node makes a node. Most variables are bound by nodes ahead of them, so that not all lead back to themselves.
func (r maker) node(n, size int, dyn bool) api.GNode {
	at := func() int { return r.Intn(size) }
	switch r.Intn(14) {
	case 0:
		if dyn {
			return plain(api.TDyn)
		}
		return record("a b", at(), at())
	case 1:
		return plain(api.TNull + r.Intn(3))
	case 2:
		return tag([]string{"a", "b"}[r.Intn(2)])
	case 3, 4, 5, 6:
		if n > 0 && r.Intn(6) > 0 {
			return variable(r.Intn(3), r.Intn(n))
		}
		return variable(r.Intn(3), at())
	case 7:
		return record("b", at())
	case 8, 9:
		return record("a b", at(), at())
	}
	return record("a", at())
}

// fill gives a union its members, or makes it another node if there are too few.
func (r maker) fill(g []api.GNode, n int) {
	var l []int
	for _, m := range r.Perm(len(g)) {
		if g[m].Kind != api.TUnion && (m < n || r.Intn(3) == 0) {
			l = append(l, m)
		}
	}
	if len(l) < 2 {
		g[n] = plain(api.TNull)
		return
	}
	g[n].L = l[:2+r.Intn(min(len(l)-1, 4))]
}

// list makes a list of nodes, some of them several times.
func (r maker) list(g []api.GNode) (l []int) {
	for range 1 + r.Intn(4) {
		l = append(l, r.Intn(len(g)))
	}
	return l
}

// graphs calls a test for graphs at random, half of them without dyn, always the same ones.
func graphs(t *testing.T, n int, test func(r maker, g []api.GNode)) {
	r := maker{rand.New(rand.NewSource(9))}
	for i := range n {
		g := r.graph(i%2 == 0)
		if e := graph.Check(g); e != api.OK {
			t.Fatalf("%s: error %d", show(g, 0), e)
		}
		if test(r, g); t.Failed() {
			t.Fatalf("graph %d: %s", i, show(g, 0))
		}
	}
}

func TestP9_1_AsDefined(t *testing.T) {
	graphs(t, 6000, func(r maker, g []api.GNode) {
		for range 10 {
			l := r.list(g)
			want, place := joinOf(g, l)
			if h, at, e := join.Of(g, l); e != api.OK || at != place || !graph.Same(h, want) {
				t.Errorf("%v: %s, not %s", l, told(g, h, e, at), told(g, want, api.OK, place))
			}
		}
	})
}

func TestP9_2_NarrowAsDefined(t *testing.T) {
	counts := map[int]int{}
	graphs(t, 6000, func(_ maker, g []api.GNode) {
		for _, shape := range []string{"null", "bool", "int", "rec", "'a", "'c"} {
			dyn := map[string]*api.GNode{"null": {Kind: api.TNull}, "bool": {Kind: api.TBool}, "int": {Kind: api.TInt}, "'a": {Kind: api.TTag, Name: "a"}, "'c": {Kind: api.TTag, Name: "c"}}[shape]
			for n := range g {
				want, yes, no := byShape(g, shape).narrowed(n, dyn)
				counts[len(want)-len(g)]++
				if h, y, o, e := join.Narrow(g, n, shape); e != api.OK || y != yes || o != no || !graph.Same(h, want) {
					t.Errorf("%d, %s: %s, not %s", n, shape, told(g, h, e, y, o), told(g, want, api.OK, yes, no))
				}
			}
		}
	})
	for more := range 4 {
		if counts[more] < 500 {
			t.Errorf("%d new nodes: %d times", more, counts[more])
		}
	}
}

func TestP9_2_NarrowByAsDefined(t *testing.T) {
	counts := map[bool]int{}
	graphs(t, 6000, func(_ maker, g []api.GNode) {
		for _, key := range []string{"a", "b", "c"} {
			for _, shape := range []string{"null", "rec", "'a"} {
				for n := range g {
					want, yes, no := byKey(g, key, shape).narrowed(n, nil)
					counts[yes >= 0 && no >= 0]++
					if h, y, o, e := join.NarrowBy(g, n, key, shape); e != api.OK || y != yes || o != no || !graph.Same(h, want) {
						t.Errorf("%d, %s, %s: %s, not %s", n, key, shape, told(g, h, e, y, o), told(g, want, api.OK, yes, no))
					}
				}
			}
		}
	})
	if counts[true] < 10000 || counts[false] < 10000 {
		t.Error(counts)
	}
}

func TestP9_3_AsDefined(t *testing.T) {
	there := 0
	graphs(t, 6000, func(_ maker, g []api.GNode) {
		for _, key := range []string{"a", "b", "c"} {
			for n := range g {
				h, at, e := join.Field(g, n, key)
				l, ok := fields(g, n, key, nil)
				if !ok {
					if e != api.ErrType || len(h) != 0 || at != 0 {
						t.Errorf("%d, %s: %s", n, key, told(g, h, e, at))
					}
					continue
				}
				there++
				if want, place := joinOf(g, l); e != api.OK || at != place || !graph.Same(h, want) {
					t.Errorf("%d, %s: %s, not %s", n, key, told(g, h, e, at), told(g, want, api.OK, place))
				}
			}
		}
	})
	if there < 10000 {
		t.Errorf("%d fields", there)
	}
}

func TestP9_5_Join(t *testing.T) {
	above := 0
	graphs(t, 4000, func(r maker, g []api.GNode) {
		l := r.list(g)
		h, at, _ := join.Of(g, l)
		other := append(slices.Clone(l), l[r.Intn(len(l))], l[r.Intn(len(l))])
		r.Shuffle(len(other), func(i, j int) { other[i], other[j] = other[j], other[i] })
		both, again, e := join.Of(h, other)
		if e != api.OK || !canon.One(both, at, again) {
			t.Errorf("%v and %v: %s", l, other, show(both, 0))
		}
		strict, _ := sub.All(h, true)
		for _, n := range l {
			if !strict[n][at] {
				t.Errorf("%d is no subtype of the join of %v", n, l)
			}
		}
		for n := range g {
			if slices.ContainsFunc(l, func(m int) bool { return !strict[m][n] }) {
				continue
			}
			above++
			if !strict[at][n] {
				t.Errorf("the join of %v is no subtype of %d", l, n)
			}
		}
	})
	if above < 4000 {
		t.Errorf("%d types are above", above)
	}
}

// both calls a test for what Narrow and NarrowBy return for all types of a graph.
func both(g []api.GNode, test func(n int, shape string, byKey bool, h []api.GNode, yes, no int)) {
	for _, shape := range []string{"null", "int", "rec", "'a"} {
		for n := range g {
			h, yes, no, _ := join.Narrow(g, n, shape)
			test(n, shape, false, h, yes, no)
			h, yes, no, _ = join.NarrowBy(g, n, "a", shape)
			test(n, shape, true, h, yes, no)
		}
	}
}

func TestP9_6_YesAndNo(t *testing.T) {
	apart := 0
	graphs(t, 1500, func(_ maker, g []api.GNode) {
		both(g, func(n int, shape string, byKey bool, h []api.GNode, yes, no int) {
			if slices.ContainsFunc(below(g, n), func(m int) bool { return g[m].Kind == api.TDyn }) {
				return
			}
			var parts []int
			for _, part := range []int{yes, no} {
				if part < 0 {
					continue
				}
				parts = append(parts, part)
				if !sub.Strict(h, part, n) {
					t.Errorf("%d, %s, by key %t: %d is no subtype", n, shape, byKey, part)
				}
			}
			if len(parts) == 2 && yes != no {
				apart++
			}
			if all, at, e := join.Of(h, parts); e != api.OK || !canon.One(all, at, n) {
				t.Errorf("%d, %s, by key %t: %v of %s", n, shape, byKey, parts, show(h, 0))
			}
		})
	})
	if apart < 1000 {
		t.Errorf("%d were narrowed", apart)
	}
}

// isOf tells whether a node is of a shape.
func isOf(n api.GNode, shape string) bool {
	return shape == map[int]string{api.TNull: "null", api.TBool: "bool", api.TInt: "int", api.TRec: "rec", api.TTag: "'" + n.Name}[n.Kind]
}

func TestP9_6_Members(t *testing.T) {
	tested := 0
	graphs(t, 4000, func(_ maker, g []api.GNode) {
		both(g, func(n int, shape string, byKey bool, h []api.GNode, yes, no int) {
			if byKey || slices.ContainsFunc(graph.Members(g, n), func(m int) bool { return g[m].Kind == api.TVar }) {
				return
			}
			tested++
			for _, m := range graph.Members(h, yes) {
				if !isOf(h[m], shape) && (shape != "rec" || h[m].Kind != api.TDyn) {
					t.Errorf("%d, %s: yes has %d", n, shape, m)
				}
			}
			for _, m := range graph.Members(h, no) {
				if isOf(h[m], shape) {
					t.Errorf("%d, %s: no has %d", n, shape, m)
				}
			}
		})
	})
	if tested < 10000 {
		t.Errorf("%d types", tested)
	}
}

// A variable that leads back to itself is a subtype of everything, but has no field.
func TestP9_7_FieldOrNot(t *testing.T) {
	counts := map[bool]int{}
	graphs(t, 3000, func(_ maker, g []api.GNode) {
		for _, key := range []string{"a", "b"} {
			for n := range g {
				h := append(graph.Copy(g), plain(api.TDyn), record(key, len(g)))
				want := sub.May(h, n, len(g)+1) && !slices.ContainsFunc(below(g, n), func(m int) bool { return circular(g, m) })
				counts[want]++
				if _, _, e := join.Field(g, n, key); (e == api.OK) != want {
					t.Errorf("%d, %s: error %d", n, key, e)
				}
			}
		}
	})
	if counts[true] < 4000 || counts[false] < 4000 {
		t.Error(counts)
	}
}

// A TDyn is taken for a record whose field it is.
func TestP9_7_LeastField(t *testing.T) {
	above := 0
	graphs(t, 4000, func(_ maker, g []api.GNode) {
		for _, key := range []string{"a", "b"} {
			for n := range g {
				h, at, e := join.Field(g, n, key)
				if e != api.OK {
					continue
				}
				l, _ := fields(g, n, key, nil)
				for b := range g {
					if slices.ContainsFunc(l, func(a int) bool { return !sub.Strict(g, a, b) }) {
						continue
					}
					above++
					if !sub.Strict(h, at, b) {
						t.Errorf("%d, %s: %d", n, key, b)
					}
				}
			}
		}
	})
	if above < 4000 {
		t.Errorf("%d types are above", above)
	}
}

// The order of the members of a type does not matter to which of them remain.
func TestP9_2_OrderOfMembers(t *testing.T) {
	graphs(t, 3000, func(r maker, g []api.GNode) {
		turned := graph.Copy(g)
		for n := range turned {
			if turned[n].Kind == api.TUnion {
				slices.Reverse(turned[n].L)
			}
		}
		both(g, func(n int, shape string, byKey bool, h []api.GNode, yes, no int) {
			i, y, o, _ := join.Narrow(turned, n, shape)
			if byKey {
				i, y, o, _ = join.NarrowBy(turned, n, "a", shape)
			}
			if members(h, yes) != members(i, y) || members(h, no) != members(i, o) {
				t.Errorf("%d, %s, by key %t: %s; %s", n, shape, byKey, told(g, h, api.OK, yes, no), told(turned, i, api.OK, y, o))
			}
		})
	})
}

// members writes the members of a type in an order of their own.
func members(g []api.GNode, n int) string {
	var l []string
	for _, m := range graph.Members(g, n) {
		l = append(l, show(g[m:m+1], 0))
	}
	slices.Sort(l)
	return strings.Join(l, ", ")
}
