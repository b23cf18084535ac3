package infer_test

import (
	"fmt"
	"math/rand"
	"slices"
	"testing"

	"armillary/api"
	"armillary/canon"
	"armillary/graph"
	"armillary/infer"
	"armillary/join"
	"armillary/sub"
	"armillary/subst"
)

// A reading matches as the chapter's definitions say, without regard to time and depth.
type reading struct {
	g       []api.GNode
	pairs   map[[2]int]bool
	given   [16][]int
	bad     bool
	depth   int // of the pairs that are being matched
	deepest int
}

func read(g []api.GNode, patterns, types []int) *reading {
	r := &reading{g: g, pairs: map[[2]int]bool{}}
	for i := range patterns {
		r.match(patterns[i], types[i])
	}
	return r
}

func (r *reading) match(pattern, t int) {
	if r.pairs[[2]int{pattern, t}] {
		return
	}
	r.pairs[[2]int{pattern, t}] = true
	r.depth++
	r.deepest = max(r.deepest, r.depth)
	var vars, others []int
	for _, o := range graph.Members(r.g, pattern) {
		if r.g[o].Kind == api.TVar {
			vars = append(vars, o)
		} else {
			others = append(others, o)
		}
	}
	r.bad = r.bad || len(vars) >= 2
	if len(vars) < 2 {
		for _, s := range graph.Members(r.g, t) {
			r.member(pattern, vars, others, s)
		}
	}
	r.depth--
}

func (r *reading) member(pattern int, vars, others []int, s int) {
	i := slices.IndexFunc(others, func(o int) bool { return alike(r.g[o], r.g[s]) })
	switch {
	case i >= 0 && r.g[s].Kind == api.TRec:
		o := r.g[others[i]]
		for k, key := range o.Keys {
			if at := slices.Index(r.g[s].Keys, key); at >= 0 {
				r.match(o.L[k], r.g[s].L[at])
			}
		}
	case i >= 0:
	case len(vars) == 1:
		if k := r.g[vars[0]].Num; !slices.Contains(r.given[k], s) {
			r.given[k] = append(r.given[k], s)
		}
	case r.g[s].Kind == api.TVar:
		r.match(pattern, r.g[s].L[0])
	}
}

func alike(o, s api.GNode) bool {
	switch s.Kind {
	case api.TDyn, api.TNull, api.TBool, api.TInt, api.TRec:
		return o.Kind == s.Kind
	case api.TTag:
		return o.Kind == api.TTag && o.Name == s.Name
	}
	return false
}

// result is what Of is to return.
func (r *reading) result(bounds []int) string {
	if r.bad {
		return "error 161"
	}
	h := graph.Copy(r.g)
	var l []int
	for k, bound := range bounds {
		switch s := r.given[k]; len(s) {
		case 0:
			l = append(l, bound)
		case 1:
			l = append(l, s[0])
		default:
			l = append(l, len(h))
			h = append(h, union(s...))
		}
	}
	return told(r.g, h, l, api.OK)
}

// A maker makes graphs at random.
type maker struct{ *rand.Rand }

// graph makes a valid graph of types that lead to each other; the more variables, the more unions have two of them.
func (r maker) graph(size, variables int) []api.GNode {
	g := make([]api.GNode, size)
	unions := 1 + r.Intn(4)
	for n := range g {
		switch {
		case n > 1 && r.Intn(8) < unions:
			g[n] = plain(api.TUnion)
		case r.Intn(10) < variables:
			g[n] = variable(r.Intn(3), r.Intn(size))
		default:
			g[n] = r.node(size)
		}
	}
	for n := range g {
		if g[n].Kind == api.TUnion {
			r.union(g, n, size)
		}
	}
	return g
}

// node makes a node that is no union and no variable.
func (r maker) node(size int) api.GNode {
	switch i := r.Intn(10); {
	case i < 4:
		return plain(1 + i)
	case i == 4:
		return tag(string(rune('a' + r.Intn(3))))
	}
	return r.record(r.Intn(4), size)
}

// record makes a record of so many keys; its fields are among so many nodes.
func (r maker) record(keys, size int) api.GNode {
	n := record("")
	for _, k := range r.Perm(4)[:keys] {
		n.Keys = append(n.Keys, string(rune('a'+k)))
		n.L = append(n.L, r.Intn(size))
	}
	slices.Sort(n.Keys)
	return n
}

// union gives a union members among so many nodes.
func (r maker) union(g []api.GNode, n, size int) {
	var l []int
	for _, m := range r.Perm(size) {
		if g[m].Kind != api.TUnion {
			l = append(l, m)
		}
	}
	if len(l) < 2 {
		g[n] = plain(api.TNull)
		return
	}
	g[n].L = l[:2+r.Intn(min(len(l)-1, 4))]
}

// list makes a list of so many nodes.
func (r maker) list(size, n int) (l []int) {
	for range n {
		l = append(l, r.Intn(size))
	}
	return l
}

// graphs calls a test for graphs at random, always the same ones.
func graphs(t *testing.T, n int, test func(r maker, g []api.GNode)) {
	r := maker{rand.New(rand.NewSource(11))}
	for i := range n {
		g := r.graph(3+r.Intn(14), r.Intn(5))
		if e := graph.Check(g); e != api.OK {
			t.Fatalf("%s: error %d", show(g, 0), e)
		}
		if test(r, g); t.Failed() {
			t.Fatalf("graph %d: %s", i, show(g, 0))
		}
	}
}

func TestP11_1_AsDefined(t *testing.T) {
	grown, bad, bounded := 0, 0, 0
	graphs(t, 20000, func(r maker, g []api.GNode) {
		for range 10 {
			n := r.Intn(4)
			bounds, patterns, types := r.list(len(g), r.Intn(5)), r.list(len(g), n), r.list(len(g), n)
			want := read(g, patterns, types).result(bounds)
			got := of(g, bounds, patterns, types)
			if got != want {
				t.Errorf("%v; %v; %v: %s, not %s", bounds, patterns, types, got, want)
			}
			h, l, e := infer.Of(g, bounds, patterns, types)
			switch {
			case e != api.OK:
				bad++
			case len(h) > len(g):
				grown++
			case len(l) > 0 && !slices.Equal(l, bounds):
				bounded++
			}
		}
	})
	if grown < 5000 || bad < 5000 || bounded < 10000 {
		t.Errorf("%d have grown, %d have had two variables, %d had other nodes than bounds", grown, bad, bounded)
	}
}

func TestP11_2_AsDefined(t *testing.T) {
	counts := map[int]int{}
	graphs(t, 20000, func(r maker, g []api.GNode) {
		for range 5 {
			n := r.Intn(4)
			patterns, types := r.list(len(g), n), r.list(len(g), n)
			want := read(g, patterns, types)
			for k := range 4 {
				s := listed(want.given[k])
				counts[len(want.given[k])]++
				if want.bad {
					s = "error 161"
				}
				if got := given(g, patterns, types, k); got != s {
					t.Errorf("%v; %v, %d: %s, not %s", patterns, types, k, got, s)
				}
			}
		}
	})
	for n := range 5 {
		if counts[n] < 1000 {
			t.Errorf("%d nodes: %d times", n, counts[n])
		}
	}
}

// Records of records, with variables far below: pairs lie thousands deep below each other.
func TestP11_2_AsDefinedDeep(t *testing.T) {
	r := maker{rand.New(rand.NewSource(11))}
	depths := map[int]int{}
	for i := range 200 {
		size := 40 + r.Intn(160)
		g := make([]api.GNode, size)
		for n := range g {
			switch {
			case n%40 == 3:
				g[n] = variable(r.Intn(3), r.Intn(size))
			case n%40 < 6:
				g[n] = r.node(size)
			case n%10 == 0 && i%2 == 0:
				g[n] = plain(api.TUnion)
			default:
				g[n] = r.record(3+r.Intn(2), size)
			}
		}
		for n := range g {
			if g[n].Kind == api.TUnion {
				r.union(g, n, size)
			}
		}
		n := 1 + r.Intn(3)
		patterns, types := r.list(size, n), r.list(size, n)
		want := read(g, patterns, types)
		if !want.bad {
			depths[want.deepest/1000]++
		}
		if got := of(g, []int{0, 0, 0}, patterns, types); got != want.result([]int{0, 0, 0}) {
			t.Fatalf("%d: %v; %v of %s: %s", i, patterns, types, show(g, 0), got)
		}
		for k := range 3 {
			if got := given(g, patterns, types, k); !want.bad && got != listed(want.given[k]) {
				t.Fatalf("%d: %v; %v, %d of %s: %s, not %v", i, patterns, types, k, show(g, 0), got, want.given[k])
			}
		}
	}
	if depths[1] < 20 || depths[2] < 20 || depths[3] < 10 {
		t.Errorf("%v", depths)
	}
}

// forPatterns makes a graph whose first nodes are patterns in which no union has a variable or a record as a member, and behind these types, which do not lead to patterns, and have other variables.
func (r maker) forPatterns() (g []api.GNode, patterns int) {
	patterns = 4 + r.Intn(6)
	types := r.graph(4+r.Intn(8), 2)
	for i, n := range types {
		for k := range n.L {
			types[i].L[k] += patterns
		}
		if n.Kind == api.TVar {
			types[i].Num += 3
		}
	}
	for range patterns {
		switch r.Intn(6) {
		case 0:
			g = append(g, variable(r.Intn(3), patterns+r.Intn(len(types))))
		case 1:
			g = append(g, r.node(patterns))
		case 2:
			g = append(g, plain(api.TUnion))
		default:
			g = append(g, r.record(1+r.Intn(3), patterns))
		}
	}
	g = append(g, types...)
	for n := range patterns {
		if g[n].Kind == api.TUnion {
			r.simpleUnion(g, n)
		}
	}
	return g, patterns
}

// simpleUnion gives a union members that are no variables and no records.
func (r maker) simpleUnion(g []api.GNode, n int) {
	var l []int
	for _, m := range r.Perm(len(g)) {
		if g[m].Kind < api.TRec {
			l = append(l, m)
		}
	}
	if len(l) < 2 {
		g[n] = plain(api.TNull)
		return
	}
	g[n].L = l[:2+r.Intn(min(len(l)-1, 3))]
}

// below makes a type at random that is a strict subtype of another one.
func (r maker) below(g []api.GNode, t int) int {
	for range 20 {
		if n := r.Intn(len(g)); sub.Strict(g, n, t) {
			return n
		}
	}
	return t
}

func TestP11_4_Least(t *testing.T) {
	r := maker{rand.New(rand.NewSource(4))}
	less, same, more := 0, 0, 0
	for range 20000 {
		g, size := r.forPatterns()
		if e := graph.Check(g); e != api.OK {
			t.Fatalf("%s: error %d", show(g, 0), e)
		}
		args, bounds := make([]int, 3), make([]int, 3)
		for k := range args {
			args[k], bounds[k] = size+r.Intn(len(g)-size), size+r.Intn(len(g)-size)
		}
		// the types are strict subtypes of the images of the patterns
		var e api.Errno
		n := 1 + r.Intn(3)
		patterns, images, types := r.list(size, n), make([]int, n), make([]int, n)
		for i, pattern := range patterns {
			if g, images[i], e = subst.Of(g, pattern, args); e != api.OK {
				t.Fatal(e)
			}
		}
		for i, image := range images {
			types[i] = r.below(g, image)
		}
		h, l, e := infer.Of(g, bounds, patterns, types)
		if e != api.OK {
			t.Fatalf("%v; %v; %v of %s: error %d", bounds, patterns, types, show(g, 0), e)
		}
		for k, arg := range args {
			s, _ := infer.Given(g, patterns, types, k)
			if len(s) == 0 {
				continue
			}
			if !sub.Strict(h, l[k], arg) {
				t.Fatalf("%v; %v; %v of %s: %d is not below %d", bounds, patterns, types, show(h, 0), l[k], arg)
			}
			if sub.Strict(h, arg, l[k]) {
				same++
			} else {
				less++
			}
		}
		for i, pattern := range patterns {
			h, at, e := subst.Of(h, pattern, l)
			if e != api.OK || !sub.Strict(h, types[i], at) {
				t.Fatalf("%v; %v; %v of %s: error %d, %d is not below %d", bounds, patterns, types, show(h, 0), e, types[i], at)
			}
			if len(subst.Vars(h, pattern)) > 0 && !sub.Strict(h, images[i], at) {
				more++
			}
		}
	}
	if less < 1000 || same < 1000 || more < 1000 {
		t.Errorf("%d type arguments are less, %d the same, %d parameters are less", less, same, more)
	}
}

// moved lays the nodes of a graph, and others, in another order.
func (r maker) moved(g []api.GNode) (h []api.GNode, to []int) {
	others := r.Intn(6)
	to = r.Perm(len(g) + others)
	h = make([]api.GNode, len(to))
	for _, at := range to[len(g):] {
		h[at] = r.record(r.Intn(3), len(h))
	}
	for n, node := range graph.Copy(g) {
		node.L = places(to, node.L)
		h[to[n]] = node
	}
	return h, to[:len(g)]
}

// places are the new places of some nodes.
func places(to, l []int) (at []int) {
	for _, n := range l {
		at = append(at, to[n])
	}
	return at
}

func TestP11_5_Positions(t *testing.T) {
	bad, grown := 0, 0
	graphs(t, 20000, func(r maker, g []api.GNode) {
		h, to := r.moved(g)
		n := 1 + r.Intn(3)
		bounds, patterns, types := r.list(len(g), 3), r.list(len(g), n), r.list(len(g), n)
		x, l, e := infer.Of(g, bounds, patterns, types)
		y, m, f := infer.Of(h, places(to, bounds), places(to, patterns), places(to, types))
		if e != f || e == api.OK && len(x)-len(g) != len(y)-len(h) {
			t.Fatalf("%v; %v; %v: %s, but %s", bounds, patterns, types, told(g, x, l, e), told(h, y, m, f))
		}
		if e != api.OK {
			bad++
			return
		}
		for i := range len(x) - len(g) {
			grown++
			to = append(to, len(h)+i)
			if u := x[len(g)+i]; !slices.Equal(places(to, u.L), y[len(h)+i].L) {
				t.Errorf("%v; %v; %v: %s, but %s", bounds, patterns, types, told(g, x, l, e), told(h, y, m, f))
			}
		}
		if !slices.Equal(places(to, l), m) {
			t.Errorf("%v; %v; %v: %s, but %s", bounds, patterns, types, told(g, x, l, e), told(h, y, m, f))
		}
	})
	if bad < 1000 || grown < 1000 {
		t.Errorf("%d had two variables, %d new nodes", bad, grown)
	}
}

func TestP11_5_WithoutNull(t *testing.T) {
	counts := map[string]int{}
	graphs(t, 20000, func(r maker, g []api.GNode) {
		n := len(g)
		g = append(g, plain(api.TNull), variable(r.Intn(2), r.Intn(n)), union(n, n+1), union(n+1, n))
		null := slices.IndexFunc(g, func(x api.GNode) bool { return x.Kind == api.TNull })
		g[n+2].L[0] = null
		for with := range n {
			if slices.ContainsFunc(graph.Members(g, with), func(m int) bool { return g[m].Kind == api.TVar }) {
				continue
			}
			bounds := []int{n, n + 1}
			h, l, e := infer.Of(g, bounds, []int{n + 2 + r.Intn(2)}, []int{with})
			left, _, no, f := join.Narrow(g, with, "null")
			if e != api.OK || f != api.OK {
				t.Fatalf("%d: error %d, error %d", with, e, f)
			}
			k := g[n+1].Num
			if l[1-k] != bounds[1-k] || (no < 0) != (l[k] == bounds[k]) {
				t.Errorf("%d: %s, but Narrow leaves %d", with, told(g, h, l, e), no)
			}
			if no >= 0 && !canon.One(canon.Join(h, left), l[k], len(h)+no) {
				t.Errorf("%d: %s, but Narrow leaves %s", with, told(g, h, l, e), show(left, 0))
			}
			counts[fmt.Sprint(no < 0, no == with)]++
		}
	})
	for _, of := range []string{"true false", "false true", "false false"} {
		if counts[of] < 1000 {
			t.Errorf("%s: %d times", of, counts[of])
		}
	}
}

// Whatever the arguments are, each function ends with an answer, and the same one each time.
func TestR1_Anything(t *testing.T) {
	errors := map[api.Errno]int{}
	graphs(t, 20000, func(r maker, g []api.GNode) {
		// almost all are nodes
		list := func(n int) (l []int) {
			for range n {
				l = append(l, r.Intn(len(g)+1)-r.Intn(20)/19)
			}
			return l
		}
		if r.Intn(10) == 0 {
			g[r.Intn(len(g))] = api.GNode{Kind: r.Intn(11), Num: r.Intn(18) - 1, L: list(r.Intn(3))}
		}
		n := r.Intn(4)
		bounds, patterns, types := list(r.Intn(18)), list(n), list(max(0, n-r.Intn(10)/9))
		h, l, e := infer.Of(g, bounds, patterns, types)
		errors[e]++
		if told(g, h, l, e) != of(g, bounds, patterns, types) {
			t.Errorf("%v; %v; %v: not again %s", bounds, patterns, types, told(g, h, l, e))
		}
		if s := assigned(g, patterns, types); s != assigned(g, patterns, types) {
			t.Errorf("%v; %v: not again %s", patterns, types, s)
		}
	})
	for _, e := range []api.Errno{api.OK, api.ErrArg, api.ErrRange, api.ErrInfer} {
		if errors[e] < 100 {
			t.Errorf("%d: %d times", e, errors[e])
		}
	}
}
