package sub_test

import (
	"math/rand"
	"slices"
	"strings"
	"testing"

	"armillary/api"
	"armillary/canon"
	"armillary/graph"
	"armillary/sub"
)

// A reading is a relation that is made as the chapter's definitions say, without regard to time.
type reading struct {
	g      []api.GNode
	strict bool
	holds  [][]bool
	rounds int // until nothing was refuted any more
}

// read begins with all pairs, and takes away those without the property, as long as there are any.
func read(g []api.GNode, strict bool) *reading {
	r := &reading{g: g, strict: strict}
	for range g {
		r.holds = append(r.holds, slices.Repeat([]bool{true}, len(g)))
	}
	for {
		next := copyRows(r.holds)
		for a := range g {
			for b := range g {
				next[a][b] = r.property(a, b)
			}
		}
		if sameRows(next, r.holds) {
			return r
		}
		r.holds = next
		r.rounds++
	}
}

// property tells whether each member of a is covered by the members of b.
func (r *reading) property(a, b int) bool {
	for _, s := range r.members(a) {
		covered := false
		for _, t := range r.members(b) {
			covered = covered || r.covers(s, t)
		}
		if !covered && (r.g[s].Kind != api.TVar || !r.holds[r.g[s].L[0]][b]) {
			return false
		}
	}
	return true
}

// members are those of graph.Members.
func (r *reading) members(n int) []int {
	if r.g[n].Kind == api.TUnion {
		return r.g[n].L
	}
	return []int{n}
}

func (r *reading) covers(s, t int) bool {
	x, y := r.g[s], r.g[t]
	if x.Kind == api.TDyn || y.Kind == api.TDyn {
		return !r.strict || x.Kind == y.Kind
	}
	if x.Kind != y.Kind {
		return false
	}
	switch x.Kind {
	case api.TTag:
		return x.Name == y.Name
	case api.TVar:
		return x.Num == y.Num && r.holds[x.L[0]][y.L[0]]
	case api.TRec:
		for i, key := range y.Keys {
			at := slices.Index(x.Keys, key)
			if at < 0 || !r.holds[x.L[at]][y.L[i]] {
				return false
			}
		}
	}
	return true
}

// pick returns what Pick is to return.
func (r *reading) pick(a, b int) int {
	if r.g[a].Kind == api.TUnion || !r.holds[a][b] {
		return -2
	}
	return slices.IndexFunc(r.members(b), func(t int) bool { return r.covers(a, t) })
}

// least returns what Least is to return.
func (r *reading) least(l []int) (n int, e api.Errno) {
	for _, a := range l {
		if !slices.ContainsFunc(l, func(b int) bool { return !r.holds[a][b] }) {
			return a, api.OK
		}
	}
	return 0, api.ErrArg
}

// A maker makes graphs at random.
type maker struct{ *rand.Rand }

// graph makes a valid graph in which many pairs hold, or are refuted late; with dyn, or without.
func (r maker) graph(dyn bool) []api.GNode {
	g := make([]api.GNode, 1+r.Intn(12))
	unions := r.Intn(4)
	for n := range g {
		if n > 1 && r.Intn(6) < unions {
			g[n] = plain(api.TUnion)
		} else {
			g[n] = r.node(len(g), dyn)
		}
	}
	for n := range g {
		if g[n].Kind == api.TUnion {
			r.fill(g, n)
		}
	}
	return g
}

func (r maker) node(size int, dyn bool) api.GNode {
	at := func() int { return r.Intn(size) }
	switch r.Intn(14) {
	case 0:
		if dyn {
			return plain(api.TDyn)
		}
		return plain(api.TNull)
	case 1:
		return plain(api.TNull + r.Intn(3))
	case 2:
		return tag([]string{"a", "b"}[r.Intn(2)])
	case 3, 4:
		return variable(r.Intn(2), at())
	case 5:
		return record("")
	case 6:
		return record("a b c", at(), at(), at())
	case 7, 8, 9:
		return record("a b", at(), at())
	case 10:
		return record("b", at())
	}
	return record("a", at())
}

// fill gives a union its members, or makes it another node if there are too few.
func (r maker) fill(g []api.GNode, n int) {
	var l []int
	for _, m := range r.Perm(len(g)) {
		if g[m].Kind != api.TUnion {
			l = append(l, m)
		}
	}
	if len(l) < 2 {
		g[n] = plain(api.TNull)
		return
	}
	g[n].L = l[:2+r.Intn(min(len(l)-1, 4))]
}

// list makes a list of nodes, some of them several times.
func (r maker) list(g []api.GNode) (l []int) {
	for range 1 + r.Intn(4) {
		l = append(l, r.Intn(len(g)))
	}
	return l
}

// graphs calls a test for graphs at random, half of them without dyn, always the same ones.
func graphs(t *testing.T, n int, test func(r maker, g []api.GNode)) {
	r := maker{rand.New(rand.NewSource(8))}
	for i := range n {
		g := r.graph(i%2 == 0)
		if e := graph.Check(g); e != api.OK {
			t.Fatalf("%s: error %d", show(g), e)
		}
		if test(r, g); t.Failed() {
			t.Fatalf("graph %d: %s", i, show(g))
		}
	}
}

func TestP8_1_AsDefined(t *testing.T) {
	held, late := 0, 0
	graphs(t, 3000, func(_ maker, g []api.GNode) {
		may, strict := read(g, false), read(g, true)
		if may.rounds > 4 {
			late++
		}
		for a := range g {
			for b := range g {
				if a != b && may.holds[a][b] {
					held++
				}
				if got := sub.May(g, a, b); got != may.holds[a][b] {
					t.Errorf("%d, %d: %t", a, b, got)
				}
				if got := sub.Strict(g, a, b); got != strict.holds[a][b] {
					t.Errorf("%d, %d: strictly %t", a, b, got)
				}
			}
		}
	})
	if held < 10000 || late < 100 {
		t.Errorf("%d pairs hold, in %d graphs some are refuted late", held, late)
	}
}

func TestP8_2_AsDefined(t *testing.T) {
	picked := map[int]int{}
	graphs(t, 3000, func(_ maker, g []api.GNode) {
		may := read(g, false)
		for a := range g {
			for b := range g {
				want := may.pick(a, b)
				picked[want]++
				if got := sub.Pick(g, a, b); got != want {
					t.Errorf("%d, %d: %d, not %d", a, b, got, want)
				}
			}
		}
	})
	for k := -2; k < 4; k++ {
		if picked[k] < 100 {
			t.Errorf("%d was picked %d times", k, picked[k])
		}
	}
}

func TestP8_3_AsDefined(t *testing.T) {
	found := 0
	graphs(t, 6000, func(r maker, g []api.GNode) {
		strict := read(g, true)
		for _, c := range []*reading{read(g, false), strict} {
			if l, e := sub.All(g, c.strict); e != api.OK || !sameRows(l, c.holds) {
				t.Errorf("strictly %t: %v, error %d", c.strict, l, e)
			}
		}
		for range 10 {
			l := r.list(g)
			want, wantError := strict.least(l)
			if len(l) > 1 && wantError == api.OK {
				found++
			}
			if n, e := sub.Least(g, l); n != want || e != wantError {
				t.Errorf("least of %v: %d, error %d", l, n, e)
			}
		}
	})
	if found < 1000 {
		t.Errorf("%d least ones", found)
	}
}

func TestP8_5_Order(t *testing.T) {
	graphs(t, 6000, func(_ maker, g []api.GNode) {
		l, _ := sub.All(g, true)
		for a := range g {
			if !l[a][a] || !sub.Strict(g, a, a) || !sub.May(g, a, a) {
				t.Errorf("%d is no subtype of itself", a)
			}
			for b := range g {
				for c := range g {
					if l[a][b] && l[b][c] && !l[a][c] {
						t.Errorf("%d, %d, %d", a, b, c)
					}
				}
			}
		}
	})
}

func TestP8_6_StrictAndNot(t *testing.T) {
	more := 0
	graphs(t, 6000, func(_ maker, g []api.GNode) {
		may, _ := sub.All(g, false)
		strict, _ := sub.All(g, true)
		dyn := slices.ContainsFunc(g, func(n api.GNode) bool { return n.Kind == api.TDyn })
		if !dyn && !sameRows(may, strict) {
			t.Error("not the same without dyn")
		}
		for a := range g {
			for b := range g {
				if strict[a][b] && !may[a][b] {
					t.Errorf("%d, %d: only strictly", a, b)
				}
				if may[a][b] && !strict[a][b] {
					more++
				}
			}
		}
	})
	if more < 1000 {
		t.Errorf("%d pairs hold, but not strictly", more)
	}
}

// In two graphs side by side there are many types that are equal.
func TestP8_6_Equal(t *testing.T) {
	equal := 0
	graphs(t, 1500, func(_ maker, g []api.GNode) {
		h, at, _ := canon.Of(g, upTo(len(g)))
		both := canon.Join(g, h)
		all, _ := sub.All(both, true)
		for a := range both {
			for b := range both {
				if a != b && canon.One(both, a, b) {
					equal++
					if !all[a][b] || !sub.Strict(both, a, b) {
						t.Errorf("%d, %d of %s", a, b, show(both))
					}
				}
			}
		}
		// equal types have the same subtypes and supertypes
		for a := range g {
			for b := range g {
				if c := all[a][b]; c != all[len(g)+at[a]][b] || c != all[a][len(g)+at[b]] || c != all[len(g)+at[a]][len(g)+at[b]] {
					t.Errorf("%d, %d at %d, %d of %s", a, b, at[a], at[b], show(both))
				}
			}
		}
	})
	if equal < 10000 {
		t.Errorf("%d are equal", equal)
	}
}

// united returns a graph with a node behind it that is the union of some types; a node of g if they have only one member.
func united(g []api.GNode, types ...int) ([]api.GNode, int) {
	var l []int
	for _, n := range types {
		for _, m := range graph.Members(g, n) {
			if !slices.Contains(l, m) {
				l = append(l, m)
			}
		}
	}
	if len(l) == 1 {
		return g, l[0]
	}
	return append(graph.Copy(g), union(l...)), len(g)
}

func TestP8_7_MoreMembers(t *testing.T) {
	held := 0
	graphs(t, 1500, func(r maker, g []api.GNode) {
		more := r.Intn(len(g))
		may, _ := sub.All(g, false)
		strict, _ := sub.All(g, true)
		for b := range g {
			h, n := united(g, b, more)
			mayMore, _ := sub.All(h, false)
			strictMore, _ := sub.All(h, true)
			if !strictMore[b][n] || !strictMore[more][n] {
				t.Errorf("%d, %d: no subtypes of their union", b, more)
			}
			for a := range g {
				if may[a][b] && !mayMore[a][n] || strict[a][b] && !strictMore[a][n] {
					t.Errorf("%d, %d: not with %d", a, b, more)
				}
				if may[a][b] && may[more][b] {
					held++
					if h, n := united(g, a, more); !sub.May(h, n, b) {
						t.Errorf("%d, %d: not the union with %d", a, b, more)
					}
				}
				if strict[a][b] && strict[more][b] {
					if h, n := united(g, a, more); !sub.Strict(h, n, b) {
						t.Errorf("%d, %d: not strictly the union with %d", a, b, more)
					}
				}
			}
		}
	})
	if held < 1000 {
		t.Errorf("%d unions of subtypes", held)
	}
}

func TestP8_7_FewerKeys(t *testing.T) {
	fewer := 0
	graphs(t, 3000, func(r maker, g []api.GNode) {
		may, _ := sub.All(g, false)
		strict, _ := sub.All(g, true)
		for b, n := range g {
			if len(n.Keys) == 0 {
				continue
			}
			fewer++
			k := r.Intn(len(n.Keys))
			less := record(strings.Join(slices.Delete(slices.Clone(n.Keys), k, k+1), " "), slices.Delete(slices.Clone(n.L), k, k+1)...)
			h := append(graph.Copy(g), less)
			mayLess, _ := sub.All(h, false)
			strictLess, _ := sub.All(h, true)
			if !strictLess[b][len(g)] || strictLess[len(g)][b] {
				t.Errorf("%d and without key %d", b, k)
			}
			for a := range g {
				if may[a][b] && !mayLess[a][len(g)] || strict[a][b] && !strictLess[a][len(g)] {
					t.Errorf("%d, %d without key %d", a, b, k)
				}
			}
		}
	})
	if fewer < 1000 {
		t.Errorf("%d records", fewer)
	}
}

// What else is in a graph does not matter, nor where the nodes are in it.
func TestP8_1_RestOfTheGraph(t *testing.T) {
	graphs(t, 1500, func(r maker, g []api.GNode) {
		rest := r.graph(true)
		behind := canon.Join(rest, g)
		for n := range g {
			behind = append(behind, record("z", len(rest)+n))
		}
		for a := range g {
			for b := range g {
				c, d := len(rest)+a, len(rest)+b
				if sub.May(behind, c, d) != sub.May(g, a, b) || sub.Strict(behind, c, d) != sub.Strict(g, a, b) || sub.Pick(behind, c, d) != sub.Pick(g, a, b) {
					t.Errorf("%d and %d in %s", a, b, show(behind))
				}
			}
		}
	})
}
