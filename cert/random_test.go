package cert_test

import (
	"math/rand"
	"regexp"
	"slices"
	"strings"
	"testing"

	"armillary/api"
	"armillary/canon"
	"armillary/cert"
	"armillary/fact"
	"armillary/graph"
	"armillary/sub"
)

// A reading judges certificates and drafts as the chapter's definitions say, sentence by sentence.

var aName = regexp.MustCompile(`^[a-z][a-z0-9_]{0,15}$`)

func isName(s string) bool {
	return aName.MatchString(s) && !slices.Contains(strings.Fields("module import type fn let in if then else is as true false null dyn bool int rec"), s)
}

// within tells whether a number is from one up to another one.
func within(n, least, most int) bool { return least <= n && n <= most }

// readParts tells whether what a certificate and a draft have in common is valid.
func readParts(p parts) bool {
	if !isName(*p.module) || graph.Check(*p.graph) != api.OK || len(*p.types) > 4000 || len(*p.sums) > 16 {
		return false
	}
	nodes, types := len(*p.graph), len(*p.types)
	for _, n := range *p.types {
		if !within(n, -1, nodes-1) {
			return false
		}
	}
	last := -1
	for _, a := range *p.args {
		if !within(a.Node, last+1, types-1) || !within(len(a.Types), 1, 16) {
			return false
		}
		for _, n := range a.Types {
			if !within(n, 0, nodes-1) {
				return false
			}
		}
		last = a.Node
	}
	name := ""
	for _, s := range *p.sums {
		if !isName(s.Module) || s.Module <= name || !within(s.Sum, 0, 1<<32-1) {
			return false
		}
		name = s.Module
	}
	return true
}

// readPlaces tells whether nodes and parts are in order: as one number they rise.
func readPlaces(l [][2]int, types int) bool {
	last := -1
	for _, p := range l {
		if !within(p[0], 0, types-1) || !within(p[1], 0, 255) || p[0]*256+p[1] <= last {
			return false
		}
		last = p[0]*256 + p[1]
	}
	return true
}

// readCheck is what Check is to return.
func readCheck(c api.Cert) api.Errno {
	if len(c.Graph) > 2000 || len(c.Types) > 4000 || len(c.Facts) > 8000 || len(c.Uses) > 8000 {
		return api.ErrLimit
	}
	var places [][2]int
	for _, u := range c.Uses {
		places = append(places, [2]int{u.Node, u.Part})
		if !within(u.Fact, 0, len(c.Facts)-1) {
			return api.ErrArg
		}
	}
	if !readParts(partsOfCert(&c)) || !readPlaces(places, len(c.Types)) || fact.Check(c.Graph, c.Facts) != api.OK {
		return api.ErrArg
	}
	return api.OK
}

// readDraft is the error of Of for what has no limit on its certificate.
func readDraft(d cert.Draft) api.Errno {
	if len(d.Graph) > 2000 || len(d.Types) > 4000 || len(d.Needs) > 8000 {
		return api.ErrLimit
	}
	var places [][2]int
	for _, n := range d.Needs {
		places = append(places, [2]int{n.Node, n.Part})
		if !within(min(n.A, n.B), 0, len(d.Graph)-1) || !within(max(n.A, n.B), 0, len(d.Graph)-1) {
			return api.ErrArg
		}
	}
	if !readParts(partsOfDraft(&d)) || !readPlaces(places, len(d.Types)) {
		return api.ErrArg
	}
	for _, n := range d.Needs {
		if !sub.May(d.Graph, n.A, n.B) {
			return api.ErrType
		}
	}
	return api.OK
}

// readOf is what Of is to return.
func readOf(d cert.Draft) string {
	if e := readDraft(d); e != api.OK {
		return told(api.Cert{}, e)
	}
	var roots []int
	for _, n := range d.Types {
		if n != -1 {
			roots = append(roots, n)
		}
	}
	for _, a := range d.Args {
		roots = append(roots, a.Types...)
	}
	for _, n := range d.Needs {
		roots = append(roots, n.A, n.B)
	}
	g, at, e := canon.Of(d.Graph, roots)
	if e != api.OK {
		return told(api.Cert{}, e)
	}
	next := func() (n int) {
		n, at = at[0], at[1:]
		return n
	}
	c := api.Cert{Module: d.Module, Graph: g, Sums: d.Sums}
	for _, n := range d.Types {
		if n != -1 {
			n = next()
		}
		c.Types = append(c.Types, n)
	}
	for _, a := range d.Args {
		var l []int
		for range a.Types {
			l = append(l, next())
		}
		c.Args = append(c.Args, arg(a.Node, l...))
	}
	var pairs [][2]int
	for range d.Needs {
		a := next()
		pairs = append(pairs, [2]int{a, next()})
	}
	l, used, e := fact.Find(g, pairs)
	if e != api.OK {
		return told(api.Cert{}, e)
	}
	c.Facts = l
	for i, n := range d.Needs {
		c.Uses = append(c.Uses, use(n.Node, n.Part, used[i]))
	}
	return told(c, api.OK)
}

// A maker makes graphs, drafts and certificates at random.
type maker struct{ *rand.Rand }

// graph makes a valid graph in which many types are equal, and many pairs hold.
func (r maker) graph(size int) []api.GNode {
	g := make([]api.GNode, size)
	unions := r.Intn(4)
	for n := range g {
		if n > 1 && r.Intn(6) < unions {
			g[n] = plain(api.TUnion)
		} else {
			g[n] = r.node(len(g))
		}
	}
	for n := range g {
		if g[n].Kind == api.TUnion {
			r.fill(g, n)
		}
	}
	return g
}

func (r maker) node(size int) api.GNode {
	at := func() int { return r.Intn(size) }
	switch r.Intn(12) {
	case 0, 1:
		return plain(1 + r.Intn(4))
	case 2:
		return tag([]string{"a", "b"}[r.Intn(2)])
	case 3, 4:
		return variable(r.Intn(2), at())
	case 5, 6, 7:
		return record("a b", at(), at())
	case 8:
		return record("b", at())
	case 9:
		return record("")
	}
	return record("a", at())
}

// fill gives a union its members, or makes it another node if there are too few.
func (r maker) fill(g []api.GNode, n int) {
	var l []int
	for _, m := range r.Perm(len(g)) {
		if g[m].Kind != api.TUnion {
			l = append(l, m)
		}
	}
	if len(l) < 2 {
		g[n] = plain(api.TNull)
		return
	}
	g[n].L = l[:2+r.Intn(min(len(l)-1, 3))]
}

// draft makes a valid draft; in most of them all needs hold.
func (r maker) draft(g []api.GNode, below [][]bool) cert.Draft {
	tries := []int{1, 30, 30, 30, 30}[r.Intn(5)]
	d := cert.Draft{Module: []string{"a", "m", "list"}[r.Intn(3)], Graph: g}
	for range r.Intn(6) {
		d.Types = append(d.Types, r.Intn(len(g)+1)-1)
	}
	for i := range d.Types {
		if r.Intn(3) == 0 {
			a := arg(i)
			for range 1 + r.Intn(3) {
				a.Types = append(a.Types, r.Intn(len(g)))
			}
			d.Args = append(d.Args, a)
		}
		part := r.Intn(3)
		for range r.Intn(4) {
			a, b := r.pair(g, below, tries)
			d.Needs = append(d.Needs, need(i, part, a, b))
			part += 1 + r.Intn(84)
		}
	}
	for _, s := range []string{"a", "a_", "b", "c1"} {
		if r.Intn(3) == 0 {
			d.Sums = append(d.Sums, sum(s, int(r.Uint32())))
		}
	}
	return d
}

// pair makes two nodes; with some luck in so many tries, the first one is a subtype of the second one.
func (r maker) pair(g []api.GNode, below [][]bool, tries int) (a, b int) {
	for range tries {
		if a, b = r.Intn(len(g)), r.Intn(len(g)); below[a][b] {
			break
		}
	}
	return a, b
}

// drafts calls a test for drafts at random, always the same ones.
func draftsAtRandom(t *testing.T, times int, test func(r maker, d cert.Draft)) {
	r := maker{rand.New(rand.NewSource(13))}
	for i := range times {
		g := r.graph(1 + r.Intn(12))
		below, e := sub.All(g, false)
		if e != api.OK {
			t.Fatalf("%s: error %d", show(g), e)
		}
		d := r.draft(g, below)
		if test(r, d); t.Failed() {
			t.Fatalf("draft %d: %s", i, writtenDraft(d))
		}
	}
}

func writtenDraft(d cert.Draft) string {
	c := api.Cert{Module: d.Module, Graph: d.Graph, Types: d.Types, Args: d.Args, Sums: d.Sums}
	for i, n := range d.Needs {
		c.Facts = append(c.Facts, of(n.A, n.B))
		c.Uses = append(c.Uses, use(n.Node, n.Part, i))
	}
	return written(c)
}

// near makes a number that is near to the ends of what there is.
func (r maker) near(n int) int {
	switch r.Intn(6) {
	case 0:
		return -1
	case 1:
		return -2
	case 2:
		return n
	case 3:
		return n - 1
	}
	return r.Intn(n + 1)
}

// mix changes the order of two elements of a list, or doubles one, or leaves one out, and returns the list.
func mix[T any](r maker, l []T) []T {
	if len(l) == 0 {
		return l
	}
	i, k := r.Intn(len(l)), r.Intn(len(l))
	switch r.Intn(3) {
	case 0:
		l[i], l[k] = l[k], l[i]
		return l
	case 1:
		return slices.Insert(l, i, l[k])
	}
	return slices.Delete(l, i, i+1)
}

// change changes something of what certificates and drafts have in common.
func (r maker) change(p parts) {
	switch r.Intn(9) {
	case 0:
		*p.module = []string{"", "A", "int", "x"}[r.Intn(4)]
	case 1:
		*p.graph = append(*p.graph, []api.GNode{plain(r.Intn(6)), union(r.Intn(9), r.Intn(9)), record("a", r.Intn(9))}[r.Intn(3)])
	case 2:
		*p.types = mix(r, *p.types)
	case 3:
		*p.args = mix(r, *p.args)
	case 4:
		*p.sums = mix(r, *p.sums)
	case 5:
		if l := *p.types; len(l) > 0 {
			l[r.Intn(len(l))] = r.near(len(*p.graph))
		}
	case 6:
		if l := *p.args; len(l) > 0 {
			l[r.Intn(len(l))].Node = r.near(len(*p.types))
		}
	case 7:
		if l := *p.args; len(l) > 0 {
			a := &l[r.Intn(len(l))]
			a.Types = slices.Insert(mix(r, a.Types), 0, r.near(len(*p.graph)))[r.Intn(2):]
		}
	case 8:
		if l := *p.sums; len(l) > 0 {
			l[r.Intn(len(l))] = sum([]string{"a", "a_", "b", "c1", "Z", ""}[r.Intn(6)], r.near(1<<32))
		}
	}
}

// changedCert makes a certificate of which something is another one.
func (r maker) changedCert(c api.Cert) api.Cert {
	c = cert.Copy(c)
	switch n := r.Intn(8); {
	case n < 3:
		r.change(partsOfCert(&c))
	case n == 3:
		c.Uses = mix(r, c.Uses)
	case n == 4 && len(c.Facts) > 0:
		f := &c.Facts[r.Intn(len(c.Facts))]
		f.Why = mix(r, f.Why)
	case n == 5 && len(c.Facts) > 0:
		f := &c.Facts[r.Intn(len(c.Facts))]
		f.A, f.B = r.near(len(c.Graph)), r.near(len(c.Graph))
	case n == 6 && len(c.Uses) > 0:
		u := &c.Uses[r.Intn(len(c.Uses))]
		*u = []api.Use{use(r.near(len(c.Types)), u.Part, u.Fact), use(u.Node, r.near(256), u.Fact), use(u.Node, u.Part, r.near(len(c.Facts)))}[r.Intn(3)]
	case n == 7:
		// a use of a fact that does not hold, perhaps
		if len(c.Uses) > 0 && len(c.Graph) > 0 {
			c.Uses[r.Intn(len(c.Uses))].Fact = len(c.Facts)
			c.Facts = append(c.Facts, of(r.Intn(len(c.Graph)), r.Intn(len(c.Graph)), 0))
		}
	}
	return c
}

// changedDraft makes a draft of which something is another one.
func (r maker) changedDraft(d cert.Draft) cert.Draft {
	c := cert.Copy(api.Cert{Module: d.Module, Graph: d.Graph, Types: d.Types, Args: d.Args, Sums: d.Sums})
	d = cert.Draft{Module: c.Module, Graph: c.Graph, Types: c.Types, Args: c.Args, Needs: slices.Clone(d.Needs), Sums: c.Sums}
	switch n := r.Intn(6); {
	case n < 3:
		r.change(partsOfDraft(&d))
	case n == 3:
		d.Needs = mix(r, d.Needs)
	case len(d.Needs) > 0:
		n := &d.Needs[r.Intn(len(d.Needs))]
		*n = []api.Need{need(r.near(len(d.Types)), n.Part, n.A, n.B), need(n.Node, r.near(256), n.A, n.B), need(n.Node, n.Part, r.near(len(d.Graph)), n.B), need(n.Node, n.Part, n.A, r.near(len(d.Graph)))}[r.Intn(4)]
	}
	return d
}

// often tells of what was not seen often enough.
func often(t *testing.T, seen map[api.Errno]int, least int, all ...api.Errno) {
	t.Helper()
	for _, e := range all {
		if seen[e] < least {
			t.Errorf("error %d: %d times", e, seen[e])
		}
	}
}

func TestP13_1_AsDefined(t *testing.T) {
	seen, again := map[api.Errno]int{}, map[api.Errno]int{}
	draftsAtRandom(t, 6000, func(r maker, d cert.Draft) {
		c, e := cert.Of(d)
		if e != api.OK {
			return
		}
		for range 4 {
			c := r.changedCert(c)
			for r.Intn(2) == 0 {
				c = r.changedCert(c)
			}
			e, want := cert.Check(c), readCheck(c)
			if e != want {
				t.Errorf("%s: error %d, not %d", written(c), e, want)
			}
			seen[e]++
			a, e := cert.Again(c)
			text := told(api.Cert{}, want)
			if want == api.OK {
				text = readOf(draftOf(c))
			}
			if got := told(a, e); got != text {
				t.Errorf("%s: %s, not %s", written(c), got, text)
			}
			again[e]++
		}
	})
	often(t, seen, 3000, api.OK, api.ErrArg)
	often(t, again, 3000, api.OK, api.ErrArg)
	often(t, again, 300, api.ErrType)
}

// draftOf is the draft of which Again makes a certificate.
func draftOf(c api.Cert) cert.Draft {
	d := cert.Draft{Module: c.Module, Graph: c.Graph, Types: c.Types, Args: c.Args, Sums: c.Sums}
	for _, u := range c.Uses {
		f := c.Facts[u.Fact]
		d.Needs = append(d.Needs, need(u.Node, u.Part, f.A, f.B))
	}
	return d
}

func TestP13_2_AsDefined(t *testing.T) {
	seen := map[api.Errno]int{}
	great := 0
	draftsAtRandom(t, 6000, func(r maker, d cert.Draft) {
		for i := range 5 {
			if i > 0 {
				d = r.changedDraft(d)
			}
			c, e := cert.Of(d)
			if got, want := told(c, e), readOf(d); got != want {
				t.Errorf("%s: %s, not %s", writtenDraft(d), got, want)
			}
			seen[e]++
			if len(c.Args) > 1 && len(c.Uses) > 2 && len(c.Facts) > 4 && len(c.Graph) > 4 {
				great++
			}
		}
	})
	often(t, seen, 1500, api.OK, api.ErrArg, api.ErrType)
	if great < 800 {
		t.Errorf("%d great certificates", great)
	}
}

func TestP13_3_AsDefined(t *testing.T) {
	found := 0
	draftsAtRandom(t, 2000, func(r maker, d cert.Draft) {
		c, _ := cert.Of(d)
		for range 3 {
			c = r.changedCert(c)
			for node := -2; node < 8; node++ {
				found += lookUp(t, c, node)
			}
			for _, s := range []string{"a", "a_", "b", "c1", "Z", "", "m"} {
				want := -1
				for _, x := range slices.Backward(c.Sums) {
					if x.Module == s {
						want = x.Sum
					}
				}
				if got := cert.Sum(c, s); got != want {
					t.Errorf("%s: the sum of %q: %d, not %d", written(c), s, got, want)
				}
			}
		}
	})
	if found < 5000 {
		t.Errorf("%d found", found)
	}
}

// lookUp tests all that a certificate tells of a node, and counts it.
func lookUp(t *testing.T, c api.Cert, node int) (found int) {
	want := -1
	for i, n := range c.Types {
		if i == node {
			want = n
			found++
		}
	}
	if got := cert.Type(c, node); got != want {
		t.Errorf("%s: the type of %d: %d, not %d", written(c), node, got, want)
	}
	var types []int
	for _, a := range slices.Backward(c.Args) {
		if a.Node == node {
			types = a.Types
			found++
		}
	}
	if got := cert.Args(c, node); !slices.Equal(got, types) {
		t.Errorf("%s: the args of %d: %v, not %v", written(c), node, got, types)
	}
	for part := -2; part < 258; part++ {
		want := -1
		for _, u := range slices.Backward(c.Uses) {
			if u.Node == node && u.Part == part {
				want = u.Fact
				found++
			}
		}
		if got := cert.Fact(c, node, part); got != want {
			t.Errorf("%s: the fact at %d %d: %d, not %d", written(c), node, part, got, want)
		}
	}
	return found
}

// valid tests that a certificate is, that all its facts hold, and that it is made anew as it is.
func valid(t *testing.T, c api.Cert) {
	t.Helper()
	if e := cert.Check(c); e != api.OK {
		t.Errorf("%s: error %d", written(c), e)
	}
	if k, e := fact.First(c.Graph, c.Facts); k != -1 || e != api.OK {
		t.Errorf("%s: fact %d, error %d", written(c), k, e)
	}
	if a, e := cert.Again(c); e != api.OK || !cert.Same(a, c) {
		t.Errorf("%s, made anew: %s", written(c), told(a, e))
	}
}

func TestP13_5_MadeAnew(t *testing.T) {
	made := 0
	draftsAtRandom(t, 6000, func(r maker, d cert.Draft) {
		c, e := cert.Of(d)
		if e != api.OK {
			return
		}
		valid(t, c)
		if len(c.Uses) > 2 {
			made++
		}
		// and so is one that was made anew of another one
		for range 3 {
			if c, e = cert.Again(r.changedCert(c)); e == api.OK {
				valid(t, c)
			}
		}
	})
	if made < 1000 {
		t.Errorf("%d certificates", made)
	}
}

// scramble makes a graph with other nodes; each old node is equal to any of those that other returns for it.
func (r maker) scramble(g []api.GNode) (h []api.GNode, other func(int) int) {
	h = graph.Copy(g)
	copies := make([][]int, len(g))
	for n := range g {
		copies[n] = []int{n}
	}
	for range r.Intn(8) {
		n := r.Intn(len(g))
		copies[n] = append(copies[n], len(h))
		h = append(h, graph.Copy(g[n:n+1])...)
	}
	other = func(n int) int { return copies[n][r.Intn(len(copies[n]))] }
	for n := range h {
		var l []int
		for _, child := range h[n].L {
			if h[n].Kind == api.TUnion && r.Intn(2) == 0 {
				l = append(l, copies[child]...)
			} else {
				l = append(l, other(child))
			}
		}
		if h[n].L = l; h[n].Kind == api.TUnion {
			r.Shuffle(len(l), func(i, k int) { l[i], l[k] = l[k], l[i] })
		}
	}
	// unions of what is equal are equal to it, too
	for n := range g {
		if l := copies[n]; len(l) > 1 && g[n].Kind != api.TUnion {
			h = append(h, union(l...))
			copies[n] = append(slices.Clone(l), len(h)-1)
		}
	}
	return r.renumber(append(h, tag("unused"), record("z", r.Intn(len(h)))), other)
}

// renumber puts the nodes in another order.
func (r maker) renumber(g []api.GNode, other func(int) int) ([]api.GNode, func(int) int) {
	to := r.Perm(len(g))
	h := make([]api.GNode, len(g))
	for n, node := range g {
		for i, child := range node.L {
			node.L[i] = to[child]
		}
		h[to[n]] = node
	}
	return h, func(n int) int { return to[other(n)] }
}

// translate makes a draft with other nodes of another graph.
func translate(d cert.Draft, g []api.GNode, to func(int) int) cert.Draft {
	other := cert.Draft{Module: d.Module, Graph: g, Sums: d.Sums}
	for _, n := range d.Types {
		if n >= 0 {
			n = to(n)
		}
		other.Types = append(other.Types, n)
	}
	for _, a := range d.Args {
		a.Types = slices.Clone(a.Types)
		for i, n := range a.Types {
			a.Types[i] = to(n)
		}
		other.Args = append(other.Args, a)
	}
	for _, n := range d.Needs {
		other.Needs = append(other.Needs, need(n.Node, n.Part, to(n.A), to(n.B)))
	}
	return other
}

func TestP13_6_EqualTypes(t *testing.T) {
	made, failed, others := 0, 0, 0
	draftsAtRandom(t, 6000, func(r maker, d cert.Draft) {
		c, e := cert.Of(d)
		switch e {
		case api.OK:
			made++
		case api.ErrType:
			failed++
		default:
			t.Errorf("error %d", e)
		}
		for range 3 {
			g, other := r.scramble(d.Graph)
			x := translate(d, g, other)
			if len(g) > len(d.Graph)+4 {
				others++
			}
			if got, want := told(cert.Of(x)), told(c, e); got != want {
				t.Errorf("%s, but %s for %s", want, got, writtenDraft(x))
			}
		}
		// more types, to which nothing leads
		x := d
		x.Graph = append(graph.Copy(d.Graph), record("z", len(d.Graph)+1), plain(api.TDyn))
		if got, want := told(cert.Of(x)), told(c, e); got != want {
			t.Errorf("%s, but %s with more types", want, got)
		}
	})
	if made < 2000 || failed < 500 || others < 2000 {
		t.Errorf("%d certificates, %d errors, %d times with many more nodes", made, failed, others)
	}
}

func TestP13_7_FactsOfNeeds(t *testing.T) {
	needs := 0
	draftsAtRandom(t, 6000, func(_ maker, d cert.Draft) {
		c, e := cert.Of(d)
		if e != api.OK {
			return
		}
		both := canon.Join(d.Graph, c.Graph)
		equal := func(n, of int) bool { return canon.One(both, n, len(d.Graph)+of) }
		for _, n := range d.Needs {
			k := cert.Fact(c, n.Node, n.Part)
			if k < 0 || k >= len(c.Facts) || !equal(n.A, c.Facts[k].A) || !equal(n.B, c.Facts[k].B) {
				t.Errorf("%v: fact %d of %s", n, k, written(c))
			}
			needs++
		}
		if len(c.Uses) != len(d.Needs) {
			t.Errorf("%d uses for %d needs", len(c.Uses), len(d.Needs))
		}
		for i, n := range d.Types {
			if k := cert.Type(c, i); (n == -1) != (k == -1) || n != -1 && !equal(n, k) {
				t.Errorf("type %d: %d", i, k)
			}
		}
		for _, a := range d.Args {
			l := cert.Args(c, a.Node)
			if !slices.EqualFunc(a.Types, l, equal) {
				t.Errorf("args %v: %v", a, l)
			}
		}
	})
	if needs < 5000 {
		t.Errorf("%d needs", needs)
	}
}
