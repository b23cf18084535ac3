package graph_test

import (
	"fmt"
	"math/rand"
	"slices"
	"strings"
	"testing"

	"armillary/api"
	"armillary/graph"
	"armillary/link"
)

// A maker makes texts of modules at random. Most names resolve; a part of the declared types and of the bounds loop.
type maker struct {
	*rand.Rand
	mods []string
	decl int // each module declares so many types
}

func (r maker) one(names string) string {
	l := strings.Fields(names)
	return l[r.Intn(len(l))]
}

func (r maker) some(least, most int, sep string, item func() string) string {
	var l []string
	for range least + r.Intn(most-least+1) {
		l = append(l, item())
	}
	return strings.Join(l, sep)
}

// name is a declared type's: one of its own, or of a module that is imported.
func (r maker) name(imports []string) string {
	name := fmt.Sprintf("T%d", r.Intn(r.decl))
	if r.Intn(40) == 0 {
		name = "U"
	}
	if len(imports) > 0 && r.Intn(2) == 0 {
		return imports[r.Intn(len(imports))] + "::" + name
	}
	return name
}

// typ makes a type out of names, too.
func (r maker) typ(depth int, name func() string) string {
	sub := func() string { return r.typ(depth-1, name) }
	switch n := r.Intn(10); {
	case n < 3 || depth == 0 && n < 6:
		return name()
	case n < 6 && depth > 0:
		return "(" + r.some(2, 4, " | ", sub) + ")"
	case n < 8 && depth > 0:
		var fields []string
		for _, key := range strings.Fields("b a10 a a2 c_")[:r.Intn(4)+1] {
			fields = append(fields, key+": "+sub())
		}
		r.Shuffle(len(fields), func(i, j int) { fields[i], fields[j] = fields[j], fields[i] })
		return "{" + strings.Join(fields, ", ") + "}"
	}
	return r.one("int null bool dyn 'a 'int {}")
}

// declared makes the type of a declaration: it mostly names types that are declared ahead of it, or others in records.
func (r maker) declared(k int, imports []string) string {
	return r.typ(2, func() string {
		switch {
		case len(imports) > 0 && r.Intn(2) == 0:
			return r.name(imports)
		case k > 0 && r.Intn(12) > 0:
			return fmt.Sprintf("T%d", r.Intn(k))
		case r.Intn(12) == 0:
			return r.name(nil)
		}
		return fmt.Sprintf("{a: T%d}", r.Intn(r.decl))
	})
}

func (r maker) fn(name string, imports []string) string {
	vars := strings.Fields("A B C")[:r.Intn(4)]
	in := func() string {
		if len(vars) > 0 && r.Intn(2) == 0 {
			return vars[r.Intn(len(vars))]
		}
		return r.name(imports)
	}
	bound := func() string {
		if r.Intn(20) == 0 {
			return in()
		}
		return r.name(imports)
	}
	typ := func() string { return r.typ(2, in) }
	var bounds []string
	for _, v := range vars {
		bounds = append(bounds, v+" <: "+r.typ(1, bound))
	}
	if len(vars) > 0 {
		name += "[" + strings.Join(bounds, ", ") + "]"
	}
	body := r.one("1 x y.x {} f(x)")
	if r.Intn(2) == 0 {
		body = fmt.Sprintf("{a: (%s as %s), b: f[%s]()}", body, typ(), r.some(1, 3, ", ", typ))
	}
	return fmt.Sprintf(" fn %s(x: %s): %s = %s", name, typ(), typ(), body)
}

func (r maker) module(k int) string {
	s := "module " + r.mods[k]
	var imports []string
	for i, name := range r.mods {
		if i < k && r.Intn(2) == 0 || r.Intn(60) == 0 {
			s += " import " + name
			imports = append(imports, name)
		}
	}
	for i := range r.decl {
		s += fmt.Sprintf(" type T%d = %s", i, r.declared(i, imports))
	}
	for _, name := range strings.Fields("f g h")[:1+r.Intn(3)] {
		s += r.fn(name, imports)
	}
	return s
}

func (r maker) modules() (texts []string) {
	for k := range r.mods {
		if r.Intn(30) > 0 {
			texts = append(texts, r.module(k))
		}
	}
	return texts
}

func newMaker(seed int64) maker {
	r := rand.New(rand.NewSource(seed))
	mods := strings.Fields("a b b1 c dd")
	r.Shuffle(len(mods), func(i, j int) { mods[i], mods[j] = mods[j], mods[i] })
	return maker{r, mods[:1+r.Intn(5)], 2 + r.Intn(5)}
}

// A spot is that of a node of a module; a reading answers as the chapter's definitions say, without regard to time.
type spot struct {
	module string
	node   int
}

type reading struct {
	p    *link.Program
	mods map[string]api.Module
}

func newReading(p *link.Program) reading {
	r := reading{p, map[string]api.Module{}}
	for _, name := range p.Names() {
		r.mods[name], _ = p.Module(name)
	}
	return r
}

func (r reading) node(s spot) api.Node { return r.mods[s.module].Nodes[s.node] }

// next are the nodes through which a type expands; param is the type parameter that it is, or -1.
func (r reading) next(s spot) (l []spot, param int) {
	switch n := r.node(s); n.Kind {
	case api.TUnion:
		for _, part := range n.L {
			l = append(l, spot{s.module, part})
		}
	case api.TName:
		mod, decl, param, _ := r.p.Type(s.module, s.node)
		if param >= 0 {
			return nil, param
		}
		l = append(l, spot{mod, r.mods[mod].Types[decl].Type})
	}
	return l, -1
}

// expansion is for types that do not loop.
func (r reading) expansion(s spot) (l []spot) {
	parts, _ := r.next(s)
	if len(parts) == 0 {
		return []spot{s}
	}
	for _, part := range parts {
		for _, x := range r.expansion(part) {
			if !slices.Contains(l, x) {
				l = append(l, x)
			}
		}
	}
	return l
}

// reached are the nodes that a type expands through, without itself unless it is reached again.
func (r reading) reached(s spot) (l []spot) {
	l, _ = r.next(s)
	for i := 0; i < len(l); i++ {
		parts, _ := r.next(l[i])
		for _, part := range parts {
			if !slices.Contains(l, part) {
				l = append(l, part)
			}
		}
	}
	return l
}

func (r reading) loops(s spot) bool { return slices.Contains(r.reached(s), s) }

func (r reading) contains(s spot, is func(s spot) bool) bool {
	if is(s) {
		return true
	}
	for _, part := range r.node(s).L {
		if r.contains(spot{s.module, part}, is) {
			return true
		}
	}
	return false
}

// loop is the node at which a module loops, or -1.
func (r reading) loop(name string) int {
	for _, d := range r.mods[name].Types {
		s := spot{name, d.Type}
		if r.loops(s) || slices.ContainsFunc(r.reached(s), r.loops) {
			return d.Type
		}
	}
	for _, f := range r.mods[name].Fns {
		for _, v := range f.Vars {
			if r.contains(spot{name, v.Type}, func(s spot) bool { _, param := r.next(s); return param >= 0 }) {
				return v.Type
			}
		}
	}
	return -1
}

// fault is what graph.Of returns beside the types.
func (r reading) fault(name string) (int, api.Errno) {
	if node, e := r.p.Fault(name); e != api.OK {
		return node, e
	}
	if !slices.Contains(r.p.Order(), name) {
		return -1, api.ErrName
	}
	for _, other := range r.p.Below(name) {
		if _, e := r.p.Fault(other); e != api.OK {
			return -1, e
		}
	}
	for _, other := range r.p.Below(name) {
		if r.loop(other) >= 0 {
			return -1, api.ErrLoop
		}
	}
	if node := r.loop(name); node >= 0 {
		return node, api.ErrLoop
	}
	return 0, api.OK
}

// A model is a graph, and which type nodes have a node of their own there.
type model struct {
	reading
	graph []api.GNode
	own   []spot
}

func (m *model) position(s spot) int {
	if at := slices.Index(m.own, s); at >= 0 {
		return at
	}
	parts, _ := m.next(s)
	if m.node(s).Kind == api.TName {
		return m.position(parts[0])
	}
	return m.position(m.expansion(s)[0])
}

// make makes the graph of some modules: first it finds which type nodes have a node of their own there, then what these hold.
func (m *model) make(modules []string) {
	for _, unions := range []bool{false, true} {
		for _, name := range modules {
			for i, n := range m.mods[name].Nodes {
				s := spot{name, i}
				if isType(n) && (n.Kind == api.TUnion) == unions && m.stands(s) {
					m.own = append(m.own, s)
				}
			}
		}
	}
	for _, s := range m.own {
		m.graph = append(m.graph, m.made(s))
	}
}

func isType(n api.Node) bool { return slices.Contains([]int{1, 2, 3, 4, 5, 6, 7, 8}, n.Kind) }

// stands tells whether a type node has a node of its own in the graph.
func (m *model) stands(s spot) bool {
	switch m.node(s).Kind {
	case api.TUnion:
		return len(m.expansion(s)) > 1
	case api.TName:
		_, param := m.next(s)
		return param >= 0
	}
	return true
}

func (m *model) made(s spot) api.GNode {
	n := m.node(s)
	g := api.GNode{Kind: n.Kind, Name: n.Name, Keys: slices.Clone(n.Keys)}
	switch n.Kind {
	case api.TName:
		_, k := m.next(s)
		fn := m.mods[s.module].Fns[m.p.Owner(s.module, s.node)]
		return api.GNode{Kind: api.TVar, Num: k, L: []int{m.position(spot{s.module, fn.Vars[k].Type})}}
	case api.TUnion:
		for _, x := range m.expansion(s) {
			g.L = append(g.L, m.position(x))
		}
	case api.TRec:
		slices.Sort(g.Keys)
		for _, key := range g.Keys {
			g.L = append(g.L, m.position(spot{s.module, n.L[slices.Index(n.Keys, key)]}))
		}
	}
	return g
}

const rounds = 1500

// story writes all that types tell.
func story(p *link.Program, x *graph.Types) string {
	s := fmt.Sprintln(x.Modules(), show(x.Graph()))
	for _, name := range p.Names() {
		s += fmt.Sprintln(name, spots(p, x, name))
	}
	return s
}

func (r reading) story(name string) string {
	m := &model{reading: r}
	modules := append(r.p.Below(name), name)
	m.make(modules)
	s := fmt.Sprintln(modules, show(m.graph))
	for _, other := range r.p.Names() {
		var l []string
		for i, n := range r.mods[other].Nodes {
			at := -1
			if isType(n) && slices.Contains(modules, other) {
				at = m.position(spot{other, i})
			}
			l = append(l, fmt.Sprint(at))
		}
		s += fmt.Sprintln(other, strings.Join(l, " "))
	}
	return s
}

// Programs at random have the graphs of the definitions.
func TestRandom(t *testing.T) {
	faults := map[api.Errno]int{}
	for seed := range int64(rounds) {
		texts := newMaker(seed).modules()
		p := program(t, texts...)
		r := newReading(p)
		for _, name := range append(p.Names(), "zz") {
			x, node, e := graph.Of(p, name)
			wantNode, want := r.fault(name)
			if node != wantNode || e != want || (x != nil) != (e == api.OK) {
				t.Fatalf("seed %d: %q: %s: %v, %d, error %d, not %d, %d", seed, texts, name, x, node, e, wantNode, want)
			}
			faults[e]++
			if e != api.OK {
				continue
			}
			if got, want := story(p, x), r.story(name); got != want {
				t.Fatalf("seed %d: %q: %s:\n%s\nnot\n%s", seed, texts, name, got, want)
			}
		}
	}
	for _, e := range []api.Errno{api.OK, api.ErrName, api.ErrLoop, api.ErrCycle} {
		if faults[e] < 50 {
			t.Errorf("only %d modules with the error %d", faults[e], e)
		}
	}
}

// each goes through the modules at random that have types.
func each(t *testing.T, rounds int64, do func(t *testing.T, p *link.Program, name string, x *graph.Types)) {
	for seed := range rounds {
		texts := newMaker(seed).modules()
		p := program(t, texts...)
		for _, name := range p.Names() {
			if x, _, e := graph.Of(p, name); e == api.OK {
				do(t, p, name, x)
			}
			if t.Failed() {
				t.Fatalf("seed %d: %q: %s", seed, texts, name)
			}
		}
	}
}

func TestP6_5_Valid(t *testing.T) {
	each(t, rounds, func(t *testing.T, p *link.Program, name string, x *graph.Types) {
		g := x.Graph()
		if e := graph.Check(g); e != api.OK {
			t.Errorf("error %d: %s", e, show(g))
		}
		for i, n := range g {
			if n.Kind == api.TUnion && slices.ContainsFunc(n.L, func(at int) bool { return g[at].Kind == api.TUnion }) {
				t.Errorf("a union in a union: %d of %s", i, show(g))
			}
		}
		for _, other := range x.Modules() {
			m, _ := p.Module(other)
			for i, n := range m.Nodes {
				if at := x.At(other, i); isType(n) != (0 <= at && at < len(g)) || !isType(n) && at != -1 {
					t.Errorf("%s %d: %d of %d", other, i, at, len(g))
				}
			}
		}
	})
}

func TestP6_6_Names(t *testing.T) {
	each(t, rounds, func(t *testing.T, p *link.Program, name string, x *graph.Types) {
		for _, other := range x.Modules() {
			m, _ := p.Module(other)
			for i := range m.Nodes {
				mod, decl, param, e := p.Type(other, i)
				if e != api.OK || param >= 0 {
					continue
				}
				d, _ := p.Module(mod)
				if at, want := x.At(other, i), x.At(mod, d.Types[decl].Type); at != want || at < 0 {
					t.Errorf("%s %d: %d, not %d", other, i, at, want)
				}
			}
		}
	})
}

// Neither what is done to the results, nor that types are asked for, changes types or a program.
func TestP6_4_Types(t *testing.T) {
	each(t, rounds/5, func(t *testing.T, p *link.Program, name string, x *graph.Types) {
		before := story(p, x)
		spoil(x.Graph())
		spoilLists(x.Modules(), nil)
		again, _, _ := graph.Of(p, name)
		if after := story(p, x); after != before || story(p, again) != before {
			t.Errorf("%s\nor\n%s\nnot\n%s", after, story(p, again), before)
		}
		g, h := x.Graph(), x.Graph()
		for i := range g {
			g[i].Keys, g[i].L = append(g[i].Keys, "more"), append(g[i].L, -i)
		}
		for i := range g {
			if !slices.Equal(g[i].L, append(slices.Clone(h[i].L), -i)) || len(g[i].Keys) != len(h[i].Keys)+1 {
				t.Errorf("%d: lists share memory", i)
			}
		}
	})
}
