package subst_test

import (
	"fmt"
	"math/rand"
	"slices"
	"testing"

	"armillary/api"
	"armillary/canon"
	"armillary/graph"
	"armillary/sub"
	"armillary/subst"
)

// contents are what a type contains, behind what was reached before, as the chapter says, without regard to time.
func contents(g []api.GNode, t int, reached []int) []int {
	if slices.Contains(reached, t) {
		return reached
	}
	reached = append(reached, t)
	if g[t].Kind == api.TRec || g[t].Kind == api.TUnion {
		for _, n := range g[t].L {
			reached = contents(g, n, reached)
		}
	}
	return reached
}

// variables are the numbers of the variables that some types contain, increasing.
func variables(g []api.GNode, types ...int) (l []int) {
	for _, t := range types {
		for _, n := range contents(g, t, nil) {
			if g[n].Kind == api.TVar {
				l = append(l, g[n].Num)
			}
		}
	}
	slices.Sort(l)
	return slices.Compact(l)
}

// A reading makes images as the chapter's definitions say. Meanwhile the new node of a node n has the place len(g) + n.
type reading struct {
	g    []api.GNode
	args []int
}

func (r reading) image(n int) int {
	switch {
	case len(variables(r.g, n)) == 0:
		return n
	case r.g[n].Kind == api.TVar:
		return r.args[r.g[n].Num]
	case r.g[n].Kind == api.TUnion:
		if l := r.members(n); len(l) == 1 {
			return l[0]
		}
	}
	return len(r.g) + n
}

// members are those of the images of the members of a union.
func (r reading) members(n int) (l []int) {
	for _, m := range r.g[n].L {
		parts := []int{r.image(m)}
		if parts[0] < len(r.g) {
			parts = graph.Members(r.g, parts[0])
		}
		for _, p := range parts {
			if !slices.Contains(l, p) {
				l = append(l, p)
			}
		}
	}
	return l
}

// node is the new node of a record, or of a union.
func (r reading) node(n int) api.GNode {
	x := api.GNode{Kind: r.g[n].Kind, Keys: r.g[n].Keys}
	if x.Kind == api.TUnion {
		x.L = r.members(n)
		return x
	}
	for _, m := range r.g[n].L {
		x.L = append(x.L, r.image(m))
	}
	return x
}

// grown is what Of is to return for a type.
func (r reading) grown(t int) (h []api.GNode, at int) {
	var made []int
	for _, kind := range []int{api.TRec, api.TUnion} {
		for _, n := range contents(r.g, t, nil) {
			if r.g[n].Kind == kind && r.image(n) == len(r.g)+n {
				made = append(made, n)
			}
		}
	}
	place := func(n int) int {
		if n < len(r.g) {
			return n
		}
		return len(r.g) + slices.Index(made, n-len(r.g))
	}
	h = graph.Copy(r.g)
	for _, n := range made {
		x := r.node(n)
		for i, m := range x.L {
			x.L[i] = place(m)
		}
		h = append(h, x)
	}
	return h, place(r.image(t))
}

// A maker makes graphs at random.
type maker struct{ *rand.Rand }

// graph makes a valid graph of types that lead to variables, and to each other. If there are to be bounds, these are the first nodes, and have no variables; otherwise any node may be one.
func (r maker) graph(bounds int) []api.GNode {
	g := make([]api.GNode, bounds+3+r.Intn(12))
	unions := 1 + r.Intn(3)
	within := func(n int) int {
		if n < bounds {
			return bounds
		}
		return len(g)
	}
	for n := range g {
		switch {
		case n > 1 && r.Intn(6) < unions:
			g[n] = plain(api.TUnion)
		case n >= bounds && r.Intn(3) == 0:
			g[n] = variable(r.Intn(3), r.Intn(within(0)))
		default:
			g[n] = r.node(within(n))
		}
	}
	for n := range g {
		if g[n].Kind == api.TUnion {
			r.fill(g, n, within(n))
		}
	}
	return g
}

// node makes a node that is neither a union nor a variable, and leads to those within a size.
func (r maker) node(size int) api.GNode {
	at := func() int { return r.Intn(size) }
	switch r.Intn(12) {
	case 0:
		return plain(api.TDyn)
	case 1, 2:
		return plain(api.TNull + r.Intn(3))
	case 3:
		return tag([]string{"a", "b"}[r.Intn(2)])
	case 4:
		return record("b", at())
	case 5, 6, 7:
		return record("a b", at(), at())
	case 8:
		return record("a b c", at(), at(), at())
	}
	return record("a", at())
}

// fill gives a union its members within a size, or makes it another node if there are too few.
func (r maker) fill(g []api.GNode, n, size int) {
	var l []int
	for _, m := range r.Perm(size) {
		if g[m].Kind != api.TUnion {
			l = append(l, m)
		}
	}
	if len(l) < 2 {
		g[n] = plain(api.TNull)
		return
	}
	g[n].L = l[:2+r.Intn(min(len(l)-1, 4))]
}

// list makes a list of so many nodes.
func (r maker) list(size, n int) (l []int) {
	for range n {
		l = append(l, r.Intn(size))
	}
	return l
}

// graphs calls a test for graphs at random, always the same ones; with bounds that have no variables, or any bounds.
func graphs(t *testing.T, n int, bounds bool, test func(r maker, g []api.GNode)) {
	r := maker{rand.New(rand.NewSource(10))}
	for i := range n {
		size := 0
		if bounds {
			size = 1 + r.Intn(7)
		}
		g := r.graph(size)
		if e := graph.Check(g); e != api.OK {
			t.Fatalf("%s: error %d", show(g, 0), e)
		}
		if test(r, g); t.Failed() {
			t.Fatalf("graph %d: %s", i, show(g, 0))
		}
	}
}

func TestP10_1_AsDefined(t *testing.T) {
	grown, tooFew, gone := 0, 0, 0
	graphs(t, 20000, false, func(r maker, g []api.GNode) {
		for n := range g {
			args := r.list(len(g), r.Intn(5))
			got := of(g, n, args...)
			if l := variables(g, n); len(l) > 0 && l[len(l)-1] >= len(args) {
				tooFew++
				if got != "error 9" {
					t.Errorf("%d, %v: %s", n, args, got)
				}
				continue
			}
			h, at := reading{g, args}.grown(n)
			if len(h) > len(g)+1 {
				grown++
			}
			if g[n].Kind == api.TUnion && len(variables(g, n)) > 0 && h[at].Kind != api.TUnion {
				gone++
			}
			if want := told(g, h, at, api.OK); got != want {
				t.Errorf("%d, %v: %s, not %s", n, args, got, want)
			}
		}
	})
	if grown < 20000 || tooFew < 20000 || gone < 300 {
		t.Errorf("%d have grown by some nodes, %d had too few args, %d unions became other nodes", grown, tooFew, gone)
	}
}

func TestP10_2_AsDefined(t *testing.T) {
	counts := map[int]int{}
	graphs(t, 20000, false, func(_ maker, g []api.GNode) {
		for n := range g {
			want := variables(g, n)
			counts[len(want)]++
			if got := subst.Vars(g, n); !slices.Equal(got, want) {
				t.Errorf("%d: %v, not %v", n, got, want)
			}
		}
	})
	for n := range 4 {
		if counts[n] < 2000 {
			t.Errorf("%d variables: %d times", n, counts[n])
		}
	}
}

func TestP10_4_Variables(t *testing.T) {
	changed := 0
	graphs(t, 10000, false, func(r maker, g []api.GNode) {
		for n := range g {
			args := r.list(len(g), 3)
			h, at, e := subst.Of(g, n, args)
			if e != api.OK {
				t.Errorf("%d, %v: error %d", n, args, e)
			}
			var types []int
			for _, k := range variables(g, n) {
				types = append(types, args[k])
			}
			if len(types) == 0 && (at != n || !graph.Same(g, h)) {
				t.Errorf("%d: %s", n, told(g, h, at, e))
			}
			want := variables(g, types...)
			if len(want) > 0 && !slices.Equal(want, variables(g, n)) {
				changed++
			}
			if got := subst.Vars(h, at); !slices.Equal(got, want) {
				t.Errorf("%d, %v: %v, not %v", n, args, got, want)
			}
		}
	})
	if changed < 10000 {
		t.Errorf("%d have other variables", changed)
	}
}

func TestP10_5_Twice(t *testing.T) {
	differ := 0
	graphs(t, 4000, false, func(r maker, g []api.GNode) {
		for n := range g {
			first, second := r.list(len(g), 3), r.list(len(g), 3)
			h, once, _ := subst.Of(g, n, first)
			h, twice, e := subst.Of(h, once, second)
			args := make([]int, len(first))
			for k, arg := range first {
				if e == api.OK {
					h, args[k], e = subst.Of(h, arg, second)
				}
			}
			if e != api.OK {
				t.Fatalf("%d, %v, %v: error %d", n, first, second, e)
			}
			h, at, e := subst.Of(h, n, args)
			if e != api.OK || !canon.One(h, twice, at) {
				t.Errorf("%d, %v, %v: error %d, %d and %d of %s", n, first, second, e, twice, at, show(h, 0))
			}
			if once != n && twice != once && twice != at {
				differ++
			}
		}
	})
	if differ < 4000 {
		t.Errorf("%d made different nodes", differ)
	}
}

// below is a type at random that is a strict subtype of the bounds of all variables of a number that some types contain, if there is one.
func (r maker) below(g []api.GNode, strict [][]bool, num int, types ...int) (arg int, ok bool) {
	for _, arg := range r.Perm(len(g)) {
		ok = true
		for _, t := range types {
			for _, n := range contents(g, t, nil) {
				if g[n].Kind == api.TVar && g[n].Num == num && !strict[arg][g[n].L[0]] {
					ok = false
				}
			}
		}
		if ok {
			return arg, true
		}
	}
	return 0, false
}

func TestP10_6_Subtypes(t *testing.T) {
	kept := map[string]int{}
	graphs(t, 6000, true, func(r maker, g []api.GNode) {
		strict, e := sub.All(g, true)
		if e != api.OK {
			t.Fatal(e)
		}
		for a := range g {
			for b := range g {
				if a == b || !strict[a][b] || len(variables(g, a, b)) == 0 {
					continue
				}
				args, ok := make([]int, 3), true
				for num := range args {
					if ok {
						args[num], ok = r.below(g, strict, num, a, b)
					}
				}
				if !ok {
					continue
				}
				h, at, _ := subst.Of(g, a, args)
				h, bt, e := subst.Of(h, b, args)
				if e != api.OK || !sub.Strict(h, at, bt) {
					t.Errorf("%d of %d, %v: error %d, %d and %d of %s", a, b, args, e, at, bt, show(h, 0))
				}
				kept[fmt.Sprint(len(variables(g, a)) > 0, len(variables(g, b)) > 0)]++
			}
		}
	})
	for _, of := range []string{"true true", "true false", "false true"} {
		if kept[of] < 2000 {
			t.Errorf("%s: %d times", of, kept[of])
		}
	}
}
