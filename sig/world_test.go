package sig_test

import (
	"fmt"
	"math/rand"
	"slices"
	"strings"
	"testing"

	"armillary/api"
	"armillary/graph"
	"armillary/link"
	"armillary/sig"
	"armillary/tree"
)

// A world is modules of which each one imports all before it; the last one is m. It can be written in many ways.
type world []module

type module struct {
	types []typ
	fns   []function
}

type function struct {
	bounds, params []typ
	ret            typ
}

// A typ is a type: it names a declared type by its module and its number, a type parameter (if param is true) by its number.
type typ struct {
	kind      int
	word      string // of what is neither a name nor has parts
	param     bool
	mod, decl int
	keys      []string
	parts     []typ
}

// A scope tells which types may be named: of the module mod, outside of records, those declared ahead, and in records all; of modules before it all.
type scope struct {
	mod, ahead, params int
	inRecord           bool
}

type maker struct{ *rand.Rand }

func newMaker(seed int) maker { return maker{rand.New(rand.NewSource(int64(seed)))} }

func (r maker) one(names string) string {
	l := strings.Fields(names)
	return l[r.Intn(len(l))]
}

func (r maker) world() world {
	w := make(world, 1+r.Intn(4))
	for k := range w {
		w[k].types = make([]typ, r.Intn(6))
		w[k].fns = make([]function, r.Intn(4))
	}
	for k, m := range w {
		for i := range m.types {
			m.types[i] = r.typ(w, scope{mod: k, ahead: i}, 2)
		}
		for i := range m.fns {
			m.fns[i] = r.function(w, k)
		}
	}
	return w
}

func (r maker) function(w world, k int) (f function) {
	outside := scope{mod: k, ahead: len(w[k].types)}
	for range r.Intn(4) {
		f.bounds = append(f.bounds, r.typ(w, outside, 1))
	}
	inside := outside
	inside.params = len(f.bounds)
	for range r.Intn(4) {
		f.params = append(f.params, r.typ(w, inside, 2))
	}
	f.ret = r.typ(w, inside, 2)
	return f
}

func (r maker) typ(w world, s scope, depth int) typ {
	switch n := r.Intn(10); {
	case n < 2 && s.params > 0:
		return typ{kind: api.TName, param: true, decl: r.Intn(s.params)}
	case n < 5:
		mod := r.Intn(s.mod + 1)
		most := len(w[mod].types)
		if mod == s.mod && !s.inRecord {
			most = s.ahead
		}
		if most > 0 {
			return typ{kind: api.TName, mod: mod, decl: r.Intn(most)}
		}
	case n < 7 && depth > 0:
		x := typ{kind: api.TUnion}
		for range 2 + r.Intn(3) {
			x.parts = append(x.parts, r.typ(w, s, depth-1))
		}
		return x
	case n < 9 && depth > 0:
		x := typ{kind: api.TRec}
		s.inRecord = true
		for _, key := range strings.Fields("b a10 a a2 c_")[r.Intn(5):] {
			x.keys, x.parts = append(x.keys, key), append(x.parts, r.typ(w, s, depth-1))
		}
		return x
	}
	return typ{kind: api.TInt, word: r.one("dyn null bool int int 'a 'int {}")}
}

// A style is a way to write a world. Other styles write the same, as far as the last module shows it.
type style struct {
	maker
	world
	names [][]string // of the types of each module
}

func (r maker) style(w world) style {
	y := style{r, w, nil}
	for k, m := range w {
		names := inRow(len(m.types), "T")
		if k < len(w)-1 { // these may be called anything
			for i, n := range r.Perm(50)[:len(names)] {
				names[i] = fmt.Sprint(r.one("T U Other"), n)
			}
		}
		y.names = append(y.names, names)
	}
	return y
}

func (y style) moduleName(k int) string {
	if k == len(y.world)-1 {
		return "m"
	}
	return fmt.Sprint("b", k)
}

// typ writes a type in a module; some names are replaced by what they name.
func (y style) typ(x typ, in int, vars []string, depth int) string {
	part := func(p typ) string { return y.typ(p, in, vars, depth) }
	switch {
	case x.param:
		return vars[x.decl]
	case x.kind == api.TName && depth > 0 && y.Intn(3) == 0:
		return "(" + y.typ(y.world[x.mod].types[x.decl], in, nil, depth-1) + ")"
	case x.kind == api.TName && x.mod == in:
		return y.names[in][x.decl]
	case x.kind == api.TName:
		return y.moduleName(x.mod) + "::" + y.names[x.mod][x.decl]
	case x.kind == api.TUnion:
		return "(" + strings.Join(mapped(x.parts, part), " | ") + ")"
	case x.kind == api.TRec:
		var fields []string
		for _, i := range y.Perm(len(x.keys)) {
			fields = append(fields, x.keys[i]+": "+part(x.parts[i]))
		}
		return "{" + strings.Join(fields, ", ") + "}"
	}
	return x.word
}

func mapped[T, U any](l []T, to func(T) U) (m []U) {
	for _, x := range l {
		m = append(m, to(x))
	}
	return m
}

// some are so many different names of some.
func (r maker) some(n int, names string) (l []string) {
	all := strings.Fields(names)
	for _, i := range r.Perm(len(all))[:n] {
		l = append(l, all[i])
	}
	return l
}

func (y style) function(k, i int) string {
	f := y.world[k].fns[i]
	vars := y.some(len(f.bounds), "A B X Y Z9 Q")
	typ := func(x typ) string { return y.typ(x, k, vars, 2) }
	var bounds, params []string
	for j, x := range f.bounds {
		bounds = append(bounds, vars[j]+" <: "+typ(x))
	}
	for j, name := range y.some(len(f.params), "x y z x1 f f0") {
		params = append(params, name+": "+typ(f.params[j]))
	}
	s := fmt.Sprint(" fn f", i)
	if len(bounds) > 0 {
		s += "[" + strings.Join(bounds, ", ") + "]"
	}
	body := y.one("1 x {a:null} f0() y.z true")
	if y.Intn(2) == 0 {
		other := y.maker.typ(y.world, scope{mod: k, ahead: len(y.world[k].types), params: len(vars)}, 2)
		body = fmt.Sprintf("let z = %s in (f0[%s](z) as %s)", body, typ(other), typ(other))
	}
	return s + "(" + strings.Join(params, ", ") + "): " + typ(f.ret) + " = " + body
}

func (y style) module(k int) string {
	s := "module " + y.moduleName(k)
	for i := range k {
		s += " import " + y.moduleName(i)
	}
	for i, x := range y.world[k].types {
		s += " type " + y.names[k][i] + " = " + y.typ(x, k, nil, 2)
	}
	for i := range y.world[k].fns {
		s += y.function(k, i)
	}
	return s
}

// texts are those of all modules, in any order.
func (y style) texts() (l []string) {
	for _, k := range y.Perm(len(y.world)) {
		l = append(l, y.module(k))
	}
	return l
}

// worlds calls a test with many programs, each written in some styles.
func worlds(t *testing.T, times, styles int, test func(r maker, texts []string, written int)) {
	for seed := range times {
		r := newMaker(seed)
		w := r.world()
		for k := range styles {
			texts := r.style(w).texts()
			if test(r, texts, k); t.Failed() {
				t.Fatalf("seed %d: %q", seed, texts)
			}
		}
	}
}

func TestP15_1_AsDefined(t *testing.T) {
	great := 0
	worlds(t, 1500, 1, func(r maker, texts []string, _ int) {
		p := program(t, texts...)
		for _, module := range p.Names() {
			s, node, e := sig.Of(p, module)
			want, wantNode, wantError := readOf(p, module)
			if node != wantNode || result(s, e) != result(want, wantError) || e != api.OK {
				t.Errorf("%s: %s at %d, not %s at %d", module, result(s, e), node, result(want, wantError), wantNode)
			}
			if len(s.Graph) > 12 && len(s.Fns) > 1 && len(s.Types) > 1 {
				great++
			}
		}
	})
	if great < 300 {
		t.Errorf("%d great ones", great)
	}
}

// Each type of a signature is equal to that of the module, whatever graph of the two it is asked in.
func TestP15_1_EqualTypes(t *testing.T) {
	worlds(t, 300, 1, func(r maker, texts []string, _ int) {
		p := program(t, texts...)
		s, _, _ := sig.Of(p, "m")
		x, _, _ := graph.Of(p, "m")
		m, _ := p.Module("m")
		g := x.Graph()
		both := slices.Concat(g, nil)
		for _, n := range graph.Copy(s.Graph) {
			for i := range n.L {
				n.L[i] += len(g)
			}
			both = append(both, n)
		}
		same := equal(both)
		check := func(node, at int) {
			if at < 0 || at >= len(s.Graph) || !same[x.At("m", node)][len(g)+at] {
				t.Errorf("node %d is not the type %d of %s", node, at, showAll(s))
			}
		}
		for i, d := range m.Types {
			check(d.Type, s.Types[i])
		}
		for i, f := range m.Fns {
			for k, v := range f.Vars {
				check(v.Type, s.Fns[i].Bounds[k])
			}
			for k, v := range f.Params {
				check(v.Type, s.Fns[i].Params[k])
			}
			check(f.Ret, s.Fns[i].Ret)
		}
		for a := range s.Graph {
			for b := range a {
				if same[len(g)+a][len(g)+b] {
					t.Errorf("%d and %d are equal: %s", a, b, showAll(s))
				}
			}
		}
	})
}

// equal tells for each two types of a graph whether no difference is ever found.
func equal(g []api.GNode) [][]bool {
	same := make([][]bool, len(g))
	for a := range g {
		same[a] = slices.Repeat([]bool{true}, len(g))
	}
	for found := true; found; {
		found = false
		for a := range g {
			for b := range g {
				if same[a][b] && differ(g, same, a, b) {
					same[a][b], found = false, true
				}
			}
		}
	}
	return same
}

// differ tells whether two types differ if those are equal that are held so.
func differ(g []api.GNode, same [][]bool, a, b int) bool {
	x, y := g[a], g[b]
	if x.Kind == api.TUnion || y.Kind == api.TUnion {
		within := func(l, others []int) bool {
			return all(l, func(m int) bool { return slices.ContainsFunc(others, func(n int) bool { return same[m][n] }) })
		}
		return !within(graph.Members(g, a), graph.Members(g, b)) || !within(graph.Members(g, b), graph.Members(g, a))
	}
	if x.Kind != y.Kind || x.Num != y.Num || x.Name != y.Name || !slices.Equal(x.Keys, y.Keys) {
		return true
	}
	for i := range x.L {
		if !same[x.L[i]][y.L[i]] {
			return true
		}
	}
	return false
}

// Programs in which something is wrong, mostly.
func TestP15_1_Broken(t *testing.T) {
	seen := map[api.Errno]int{}
	worlds(t, 2500, 1, func(r maker, texts []string, _ int) {
		p := brokenProgram(r, texts)
		for _, module := range append(p.Names(), "zz") {
			s, node, e := sig.Of(p, module)
			want, wantNode, wantError := readOf(p, module)
			if node != wantNode || result(s, e) != result(want, wantError) {
				t.Errorf("%s: %s at %d, not %s at %d", module, result(s, e), node, result(want, wantError), wantNode)
			}
			seen[e]++
		}
	})
	for _, e := range []api.Errno{api.OK, api.ErrName, api.ErrLoop, api.ErrCycle} {
		if seen[e] < 50 {
			t.Errorf("error %d: %d times", e, seen[e])
		}
	}
}

// brokenProgram changes a word of some modules, so that they still can be parsed; some are left out.
func brokenProgram(r maker, texts []string) *link.Program {
	var l []api.Module
	for _, s := range texts {
		if r.Intn(20) == 0 {
			continue
		}
		if r.Intn(5) == 0 {
			s = strings.Replace(s, " type ", " import m type ", 1)
		}
		words := strings.Split(s, " ")
		for range 3 {
			i, k := r.Intn(len(words)), r.Intn(len(words))
			before := words[i]
			words[i] = words[k]
			if _, _, e := tree.Parse(strings.Join(words, " ")); e != api.OK {
				words[i] = before
			}
		}
		if m, _, e := tree.Parse(strings.Join(words, " ")); e == api.OK && !slices.ContainsFunc(l, func(o api.Module) bool { return o.Name == m.Name }) {
			l = append(l, m)
		}
	}
	p, _ := link.Of(l)
	return p
}

func TestP15_5_Modules(t *testing.T) {
	worlds(t, 800, 1, func(r maker, texts []string, _ int) {
		p := program(t, texts...)
		for _, module := range p.Names() {
			s, _, _ := sig.Of(p, module)
			if e := sig.Check(s); e != api.OK || !isSig(s) {
				t.Errorf("%s: error %d", showAll(s), e)
			}
			thereAndBack(t, s)
		}
	})
}

// thereAndBack tests that a valid signature can be written and read.
func thereAndBack(t *testing.T, s api.Sig) {
	t.Helper()
	b, e := sig.Bytes(s)
	if e != api.OK || string(b) != encoded(s) {
		t.Errorf("%s: % X, not % X, error %d", showAll(s), b, encoded(s), e)
	}
	u, e := sig.Parse(b)
	if e != api.OK || !sig.Same(s, u) || showAll(s) != showAll(u) {
		t.Errorf("%s, not %s", result(u, e), showAll(s))
	}
}

// The last module shows the same, whatever bodies, names of parameters and of other modules' types there are, in whatever order keys are, and whichever names are replaced.
func TestP15_6_Styles(t *testing.T) {
	var first api.Sig
	styles, great := map[string]int{}, 0
	worlds(t, 600, 6, func(r maker, texts []string, written int) {
		s := of(t, texts...)
		if written == 0 {
			first = s
			clear(styles)
		}
		styles[strings.Join(texts, "\n")]++
		if !sig.Same(s, first) || bytesOf(s) != bytesOf(first) {
			t.Errorf("%s, not %s", showAll(s), showAll(first))
		}
		if written == 5 && len(styles) == 6 && len(s.Graph) > 8 {
			great++
		}
	})
	if great < 150 {
		t.Errorf("%d great ones", great)
	}
}
