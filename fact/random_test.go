package fact_test

import (
	"math/rand"
	"slices"
	"testing"

	"armillary/api"
	"armillary/fact"
	"armillary/graph"
	"armillary/sub"
)

// A reading judges facts as the chapter's definitions say, row by row, without regard to time.
type reading struct {
	g []api.GNode
	l []api.Fact
}

func (r reading) kind(n int) int { return r.g[n].Kind }

// wellFormed tells whether a fact is, and which numbers of its Why are facts.
func (r reading) wellFormed(f api.Fact) (refs []int, ok bool) {
	if min(f.A, f.B) < 0 || max(f.A, f.B) >= len(r.g) {
		return nil, false
	}
	need := 0
	switch {
	case r.kind(f.A) == api.TUnion:
		refs, need = f.Why, len(r.g[f.A].L)
	case len(f.Why) == 0:
		return nil, false
	case r.kind(f.A) == api.TVar && f.Why[0] == -1:
		refs, need = f.Why[1:], 1
	default:
		members := graph.Members(r.g, f.B)
		if f.Why[0] < 0 || f.Why[0] >= len(members) {
			return nil, false
		}
		t := members[f.Why[0]]
		if refs = f.Why[1:]; r.kind(f.A) == r.kind(t) {
			switch r.kind(t) {
			case api.TRec:
				need = len(r.g[t].Keys)
			case api.TVar:
				need = 1
			}
		}
	}
	return refs, len(refs) == need && !slices.ContainsFunc(refs, func(k int) bool { return k < 0 || k >= len(r.l) })
}

// is tells whether a fact has these ends.
func (r reading) is(k, a, b int) bool { return r.l[k].A == a && r.l[k].B == b }

// holds tells whether a fact that is well-formed holds.
func (r reading) holds(f api.Fact) bool {
	a := r.g[f.A]
	if a.Kind == api.TUnion {
		for i, s := range a.L {
			if !r.is(f.Why[i], s, f.B) {
				return false
			}
		}
		return true
	}
	if f.Why[0] == -1 {
		return r.is(f.Why[1], a.L[0], f.B)
	}
	t := r.g[graph.Members(r.g, f.B)[f.Why[0]]]
	if t.Kind == api.TDyn || a.Kind == api.TDyn {
		return true
	}
	if t.Kind != a.Kind {
		return false
	}
	switch t.Kind {
	case api.TTag:
		return t.Name == a.Name
	case api.TVar:
		return t.Num == a.Num && r.is(f.Why[1], a.L[0], t.L[0])
	case api.TRec:
		for i, key := range t.Keys {
			at := slices.Index(a.Keys, key)
			if at < 0 || !r.is(f.Why[1+i], a.L[at], t.L[i]) {
				return false
			}
		}
	}
	return true
}

// casts tells of each fact whether it casts: as long as one is found, all are gone through again.
func (r reading) casts() []bool {
	found := make([]bool, len(r.l))
	for again := true; again; {
		again = false
		for k, f := range r.l {
			refs, _ := r.wellFormed(f)
			dyn := func(n int) bool { return r.kind(n) == api.TDyn }
			now := dyn(f.A) && !slices.ContainsFunc(graph.Members(r.g, f.B), dyn) || slices.ContainsFunc(refs, func(k int) bool { return found[k] })
			again = again || now && !found[k]
			found[k] = found[k] || now
		}
	}
	return found
}

// judged is what judged is to write.
func (r reading) judged() string {
	var no, cast []int
	for k, f := range r.l {
		if _, ok := r.wellFormed(f); !ok {
			return bad
		}
		if !r.holds(f) {
			no = append(no, k)
		}
	}
	for k, ok := range r.casts() {
		if ok {
			cast = append(cast, k)
		}
	}
	s := all
	if len(no) > 0 {
		s = "not " + listed(no)
	}
	if len(cast) > 0 {
		s += ", casts " + listed(cast)
	}
	return s
}

// found is what Find is to return for pairs of nodes.
func found(g []api.GNode, pairs [][2]int) string {
	for _, p := range pairs {
		if !sub.May(g, p[0], p[1]) {
			return "error 160"
		}
	}
	var l []api.Fact
	var at []int
	var add func(a, b int) int
	add = func(a, b int) int {
		for k, f := range l {
			if f.A == a && f.B == b {
				return k
			}
		}
		k := len(l)
		l = append(l, of(a, b))
		var refs []int
		if g[a].Kind == api.TUnion {
			for _, s := range g[a].L {
				refs = append(refs, add(s, b))
			}
			l[k].Why = refs
			return k
		}
		pick := sub.Pick(g, a, b)
		if l[k].Why = []int{pick}; pick < 0 {
			refs = append(refs, add(g[a].L[0], b))
		} else if t := g[graph.Members(g, b)[pick]]; t.Kind == g[a].Kind {
			for i, child := range t.L {
				at := i
				if t.Kind == api.TRec {
					at = slices.Index(g[a].Keys, t.Keys[i])
				}
				refs = append(refs, add(g[a].L[at], child))
			}
		}
		l[k].Why = append(l[k].Why, refs...)
		return k
	}
	for _, p := range pairs {
		at = append(at, add(p[0], p[1]))
	}
	return told(l, at, api.OK)
}

// A maker makes graphs and facts at random.
type maker struct{ *rand.Rand }

// graph makes a valid graph in which many pairs hold; with dyn, or without.
func (r maker) graph(size int, dyn bool) []api.GNode {
	g := make([]api.GNode, size)
	unions := r.Intn(4)
	for n := range g {
		if n > 1 && r.Intn(6) < unions {
			g[n] = plain(api.TUnion)
		} else {
			g[n] = r.node(len(g), dyn)
		}
	}
	for n := range g {
		if g[n].Kind == api.TUnion {
			r.fill(g, n)
		}
	}
	return g
}

func (r maker) node(size int, dyn bool) api.GNode {
	at := func() int { return r.Intn(size) }
	switch r.Intn(14) {
	case 0:
		if dyn {
			return plain(api.TDyn)
		}
		return plain(api.TNull)
	case 1:
		return plain(api.TNull + r.Intn(3))
	case 2:
		return tag([]string{"a", "b"}[r.Intn(2)])
	case 3, 4:
		return variable(r.Intn(2), at())
	case 5:
		return record("")
	case 6:
		return record("a b c", at(), at(), at())
	case 7, 8, 9:
		return record("a b", at(), at())
	case 10:
		return record("b", at())
	}
	return record("a", at())
}

// fill gives a union its members, or makes it another node if there are too few.
func (r maker) fill(g []api.GNode, n int) {
	var l []int
	for _, m := range r.Perm(len(g)) {
		if g[m].Kind != api.TUnion {
			l = append(l, m)
		}
	}
	if len(l) < 2 {
		g[n] = plain(api.TNull)
		return
	}
	g[n].L = l[:2+r.Intn(min(len(l)-1, 4))]
}

// pairs makes pairs of nodes; with some luck all of them hold.
func (r maker) pairs(g []api.GNode, below [][]bool) (l [][2]int) {
	for range r.Intn(5) {
		p := [2]int{r.Intn(len(g)), r.Intn(len(g))}
		for try := 0; try < 9 && !below[p[0]][p[1]]; try++ {
			p = [2]int{r.Intn(len(g)), r.Intn(len(g))}
		}
		l = append(l, p)
	}
	return l
}

// facts makes facts without regard to what holds; most are well-formed.
func (r maker) facts(g []api.GNode) []api.Fact {
	l := make([]api.Fact, 1+r.Intn(5))
	for k := range l {
		a, b := r.Intn(len(g)), r.Intn(len(g))
		l[k] = of(a, b)
		refs := 0
		if g[a].Kind == api.TUnion {
			refs = len(g[a].L)
		} else if g[a].Kind == api.TVar && r.Intn(3) == 0 {
			l[k].Why, refs = []int{-1}, 1
		} else {
			members := graph.Members(g, b)
			i := r.Intn(len(members))
			l[k].Why = []int{i}
			if t := g[members[i]]; t.Kind == g[a].Kind {
				refs = len(t.L)
			}
		}
		for range refs {
			l[k].Why = append(l[k].Why, r.Intn(len(l)))
		}
	}
	return l
}

// changed makes facts in which a number is another one, or is missing, or is there twice.
func (r maker) changed(g []api.GNode, l []api.Fact) []api.Fact {
	l = fact.Copy(l)
	f := &l[r.Intn(len(l))]
	switch n := r.Intn(10); {
	case n == 0:
		f.A = r.Intn(len(g)+2) - 1
	case n == 1:
		f.B = r.Intn(len(g)+2) - 1
	case n < 4:
		f.A, f.B = r.Intn(len(g)), r.Intn(len(g))
	case n == 4 || len(f.Why) == 0:
		f.Why = append(f.Why, r.Intn(len(l)+2)-1)
	case n == 5:
		f.Why = f.Why[:len(f.Why)-1]
	default:
		f.Why[r.Intn(len(f.Why))] = r.Intn(len(l)+2) - 1
	}
	return l
}

// graphs calls a test for graphs at random, half of them without dyn, always the same ones.
func graphs(t *testing.T, n int, test func(r maker, g []api.GNode, below [][]bool)) {
	r := maker{rand.New(rand.NewSource(12))}
	for i := range n {
		g := r.graph(1+r.Intn(12), i%2 == 0)
		below, e := sub.All(g, false)
		if e != api.OK {
			t.Fatalf("%s: error %d", show(g), e)
		}
		if test(r, g, below); t.Failed() {
			t.Fatalf("graph %d: %s", i, show(g))
		}
	}
}

func TestP12_1_AsDefined(t *testing.T) {
	seen := map[string]int{}
	graphs(t, 6000, func(r maker, g []api.GNode, below [][]bool) {
		for range 10 {
			l := r.facts(g)
			if more, _, e := fact.Find(g, r.pairs(g, below)); e == api.OK && len(more) > 0 && r.Intn(2) == 0 {
				l = more
			}
			for r.Intn(2) == 0 {
				l = r.changed(g, l)
			}
			got, want := judged(g, l), reading{g, l}.judged()
			if got != want {
				t.Errorf("%s: %s, not %s", facts(l), got, want)
			}
			switch {
			case want == bad || want == all:
				seen[want]++
			case want[:3] == all:
				seen["casts"]++
			default:
				seen["not"]++
			}
		}
	})
	for _, s := range []string{bad, all, "casts", "not"} {
		if seen[s] < 1000 {
			t.Errorf("%s: %d times", s, seen[s])
		}
	}
}

func TestP12_2_AsDefined(t *testing.T) {
	seen := map[string]int{}
	graphs(t, 6000, func(r maker, g []api.GNode, below [][]bool) {
		for range 10 {
			pairs := r.pairs(g, below)
			got, want := find(g, pairs...), found(g, pairs)
			if got != want {
				t.Errorf("%v: %s, not %s", pairs, got, want)
			}
			l, _, e := fact.Find(g, pairs)
			switch {
			case e != api.OK:
				seen["error"]++
			case len(l) > 10:
				seen["many"]++
			case len(l) > len(pairs):
				seen["more than the pairs"]++
			}
			for _, f := range l {
				switch {
				case g[f.A].Kind == api.TUnion:
					seen["union"]++
				case f.Why[0] > 0:
					seen["a later member"]++
				case f.Why[0] < 0:
					seen["bound"]++
				}
			}
		}
	})
	for _, s := range []string{"error", "many", "more than the pairs", "union", "a later member", "bound"} {
		if seen[s] < 1000 {
			t.Errorf("%s: %d times", s, seen[s])
		}
	}
}

// Each pair by itself.
func TestP12_2_EachPair(t *testing.T) {
	graphs(t, 1000, func(_ maker, g []api.GNode, below [][]bool) {
		for a := range g {
			for b := range g {
				p := [2]int{a, b}
				l, at, e := fact.Find(g, [][2]int{p})
				if (e == api.OK) != below[a][b] || e == api.OK && (len(at) != 1 || at[0] != 0 || len(l) == 0 || l[0].A != a || l[0].B != b) {
					t.Errorf("%v: %s", p, told(l, at, e))
				}
				if got, want := told(l, at, e), found(g, [][2]int{p}); got != want {
					t.Errorf("%v: %s, not %s", p, got, want)
				}
			}
		}
	})
}

// What other types a graph has makes no difference.
func TestP12_2_OtherTypes(t *testing.T) {
	graphs(t, 2000, func(r maker, g []api.GNode, below [][]bool) {
		pairs := r.pairs(g, below)
		more := append(graph.Copy(g), r.node(len(g), true), record("a b", len(g), len(g)+1), variable(3, len(g)+2))
		if got, want := find(more, pairs...), find(g, pairs...); got != want {
			t.Errorf("%v: %s, not %s", pairs, got, want)
		}
	})
}

// picked returns facts that hold as well as some others do, by other reasons: each one is there several times, in any order.
func (r maker) picked(g []api.GNode, below [][]bool) []api.Fact {
	var ends [][2]int
	at := map[[2]int][]int{}
	for a := range g {
		for b := range g {
			if below[a][b] {
				for range 1 + r.Intn(2) {
					ends = append(ends, [2]int{a, b})
				}
			}
		}
	}
	r.Shuffle(len(ends), func(i, k int) { ends[i], ends[k] = ends[k], ends[i] })
	for k, p := range ends {
		at[p] = append(at[p], k)
	}
	any := func(a, b int) int {
		l := at[[2]int{a, b}]
		return l[r.Intn(len(l))]
	}
	l := make([]api.Fact, len(ends))
	for k, p := range ends {
		l[k] = of(p[0], p[1], r.why(g, below, p[0], p[1], any)...)
	}
	return l
}

// why returns a Why for a pair that holds: any that does.
func (r maker) why(g []api.GNode, below [][]bool, a, b int, at func(a, b int) int) (why []int) {
	if g[a].Kind == api.TUnion {
		for _, s := range g[a].L {
			why = append(why, at(s, b))
		}
		return why
	}
	var all [][]int
	if g[a].Kind == api.TVar && below[g[a].L[0]][b] {
		all = append(all, []int{-1, at(g[a].L[0], b)})
	}
	for i, m := range graph.Members(g, b) {
		t, x := g[m], g[a]
		if !below[a][m] || x.Kind == api.TVar && t.Kind != api.TDyn && (t.Kind != api.TVar || t.Num != x.Num || !below[x.L[0]][t.L[0]]) {
			continue
		}
		why := []int{i}
		for k := range t.L {
			from := k
			if t.Kind == api.TRec && x.Kind == api.TRec {
				from = slices.Index(x.Keys, t.Keys[k])
			}
			if t.Kind == x.Kind {
				why = append(why, at(x.L[from], t.L[k]))
			}
		}
		all = append(all, why)
	}
	return all[r.Intn(len(all))]
}

func TestP12_5_FactsThatHold(t *testing.T) {
	held, changed := 0, 0
	subtypes := func(g []api.GNode, l []api.Fact, below [][]bool) bool {
		return !slices.ContainsFunc(l, func(f api.Fact) bool { return !below[f.A][f.B] })
	}
	graphs(t, 3000, func(r maker, g []api.GNode, below [][]bool) {
		l := r.picked(g, below)
		if got := judged(g, l); got[:3] != all || !subtypes(g, l, below) {
			t.Errorf("%s: %s", facts(l), got)
		}
		for range 30 {
			l := r.changed(g, l)
			k, e := fact.First(g, l)
			if e == api.OK && k < 0 {
				changed++
				if !subtypes(g, l, below) {
					t.Errorf("%s: all hold", facts(l))
				}
			}
			if l = r.facts(g); judged(g, l)[:3] == all {
				held++
				if !subtypes(g, l, below) {
					t.Errorf("%s: all hold", facts(l))
				}
			}
		}
	})
	if held < 1000 || changed < 1000 {
		t.Errorf("%d lists of facts hold, %d with a change", held, changed)
	}
}

func TestP12_6_FoundFacts(t *testing.T) {
	many := 0
	graphs(t, 6000, func(r maker, g []api.GNode, below [][]bool) {
		pairs := r.pairs(g, below)
		l, at, e := fact.Find(g, pairs)
		if e != api.OK {
			return
		}
		if k, e := fact.First(g, l); k != -1 || e != api.OK || fact.Check(g, l) != api.OK {
			t.Errorf("%v: %s: %d does not hold, error %d", pairs, facts(l), k, e)
		}
		reached := make([]bool, len(l))
		var reach func(k int)
		reach = func(k int) {
			if !reached[k] {
				reached[k] = true
				refs, _ := reading{g, l}.wellFormed(l[k])
				for _, k := range refs {
					reach(k)
				}
			}
		}
		for i, p := range pairs {
			if l[at[i]].A != p[0] || l[at[i]].B != p[1] {
				t.Errorf("%v: %s", pairs, told(l, at, e))
			}
			reach(at[i])
		}
		ends := map[[2]int]bool{}
		for k, f := range l {
			if !reached[k] || ends[[2]int{f.A, f.B}] {
				t.Errorf("%v: fact %d of %s", pairs, k, told(l, at, e))
			}
			ends[[2]int{f.A, f.B}] = true
		}
		if len(l) > 8 {
			many++
		}
	})
	if many < 500 {
		t.Errorf("%d times there are many facts", many)
	}
}

func TestP12_7_Casts(t *testing.T) {
	casting, without := 0, 0
	graphs(t, 6000, func(r maker, g []api.GNode, below [][]bool) {
		dyn := func(n int) bool { return g[n].Kind == api.TDyn }
		l := r.facts(g)
		if r.Intn(2) == 0 {
			l = r.picked(g, below)
		}
		any := slices.ContainsFunc(g, func(n api.GNode) bool { return n.Kind == api.TDyn })
		for k, f := range l {
			casts := fact.Casts(g, l, k)
			if casts && !any {
				t.Errorf("%s: fact %d casts without dyn", facts(l), k)
			}
			if !casts && dyn(f.A) && !slices.ContainsFunc(graph.Members(g, f.B), dyn) {
				t.Errorf("%s: fact %d does not cast", facts(l), k)
			}
			if casts {
				casting++
			} else if any {
				without++
			}
		}
	})
	if casting < 1000 || without < 1000 {
		t.Errorf("%d facts cast, %d do not", casting, without)
	}
}
