package link_test

import (
	"fmt"
	"math/rand"
	"slices"
	"strings"
	"testing"

	"armillary/api"
	"armillary/link"
	"armillary/tree"
)

// A maker makes texts of modules at random, out of few names, so that many are declared twice, lack, or lead back.
type maker struct {
	*rand.Rand
	mods []string
}

func (r maker) one(names string) string {
	l := strings.Fields(names)
	return l[r.Intn(len(l))]
}

func (r maker) some(most int, sep string, item func() string) string {
	var l []string
	for range r.Intn(most + 1) {
		l = append(l, item())
	}
	return strings.Join(l, sep)
}

func (r maker) prefix() string {
	if r.Intn(3) > 0 {
		return ""
	}
	return r.mods[r.Intn(len(r.mods))] + "::"
}

func (r maker) typ(depth int) string {
	switch n := r.Intn(6); {
	case n < 3 || depth == 0:
		return r.prefix() + r.one("T U V A B")
	case n == 3:
		return "{x: " + r.typ(depth-1) + "}"
	case n == 4:
		return "(" + r.typ(depth-1) + " | " + r.typ(depth-1) + ")"
	}
	return r.one("int null 'a")
}

func (r maker) expr(depth int) string {
	sub := func() string { return r.expr(depth - 1) }
	switch n := r.Intn(7); {
	case depth == 0:
		return r.one("1 x y.x {}")
	case n < 4:
		types := r.some(2, ", ", func() string { return r.typ(1) })
		if types != "" {
			types = "[" + types + "]"
		}
		return r.prefix() + r.one("f g h") + types + "(" + r.some(2, ", ", sub) + ")"
	case n == 4:
		return "(" + sub() + " as " + r.typ(1) + ")"
	case n == 5:
		return "(let z = " + sub() + " in " + sub() + ")"
	}
	return "(" + sub() + ") + (" + sub() + ")"
}

func (r maker) fn() string {
	vars := []string{"", "[A <: %s]", "[B <: %s]", "[T <: %[1]s, A <: %[1]s]"}[r.Intn(4)]
	if vars != "" {
		vars = fmt.Sprintf(vars, r.typ(1))
	}
	return fmt.Sprintf(" fn %s%s(x: %s): %s = %s", r.one("f g h"), vars, r.typ(1), r.typ(1), r.expr(3))
}

func (r maker) module(name string) string {
	s := "module " + name
	for _, i := range r.Perm(len(r.mods))[:r.Intn(3)] {
		s += " import " + r.mods[i]
	}
	s += r.some(3, "", func() string { return " type " + r.one("T U V") + " = " + r.typ(2) })
	return s + r.some(3, "", r.fn)
}

// modules makes a text for some of the names, in some order.
func (r maker) modules() (texts []string) {
	for _, i := range r.Perm(len(r.mods))[:r.Intn(len(r.mods)+1)] {
		texts = append(texts, r.module(r.mods[i]))
	}
	return texts
}

func newMaker(seed int64) maker {
	return maker{rand.New(rand.NewSource(seed)), []string{"a", "b", "b1", "c", "dd", "e"}}
}

// A plain program answers as the chapter's definitions say, without regard to time.
type plain struct {
	mods    map[string]api.Module
	depends map[[2]string]bool
}

func newPlain(l []api.Module) plain {
	p := plain{map[string]api.Module{}, map[[2]string]bool{}}
	for _, m := range l {
		p.mods[m.Name] = m
	}
	for _, m := range l {
		for _, i := range m.Imports {
			if _, ok := p.mods[i]; ok {
				p.depends[[2]string{m.Name, i}] = true
			}
		}
	}
	for k := range p.mods {
		for i := range p.mods {
			for j := range p.mods {
				if p.depends[[2]string{i, k}] && p.depends[[2]string{k, j}] {
					p.depends[[2]string{i, j}] = true
				}
			}
		}
	}
	return p
}

func (p plain) names() []string {
	var l []string
	for name := range p.mods {
		l = append(l, name)
	}
	slices.Sort(l)
	return l
}

func (p plain) lacks(name string) bool {
	for _, i := range p.mods[name].Imports {
		if _, ok := p.mods[i]; !ok {
			return true
		}
	}
	return false
}

func (p plain) order() (l []string) {
	var left []string
	for _, name := range p.names() {
		sound := !p.depends[[2]string{name, name}] && !p.lacks(name)
		for _, other := range p.names() {
			if p.depends[[2]string{name, other}] && (p.depends[[2]string{other, other}] || p.lacks(other)) {
				sound = false
			}
		}
		if sound {
			left = append(left, name)
		}
	}
	for len(left) > 0 {
		next := -1
		for i, name := range left {
			ready := true
			for _, imported := range p.mods[name].Imports {
				ready = ready && slices.Contains(l, imported)
			}
			if ready && (next < 0 || name < left[next]) {
				next = i
			}
		}
		l = append(l, left[next])
		left = slices.Delete(left, next, next+1)
	}
	return l
}

func (p plain) below(name string) (l []string) {
	if !slices.Contains(p.order(), name) {
		return nil
	}
	for _, other := range p.order() {
		if p.depends[[2]string{name, other}] {
			l = append(l, other)
		}
	}
	return l
}

func (p plain) countBelow(name string) (n int) {
	for pair := range p.depends {
		if pair[0] == name {
			n++
		}
	}
	return n
}

// owners goes down from each declaration.
func (p plain) owners(name string) []int {
	m := p.mods[name]
	l := make([]int, len(m.Nodes))
	var mark func(node, owner int)
	mark = func(node, owner int) {
		l[node] = owner
		for _, part := range m.Nodes[node].L {
			mark(part, owner)
		}
	}
	for _, d := range m.Types {
		mark(d.Type, -1)
	}
	for i, f := range m.Fns {
		for _, v := range append(slices.Clone(f.Vars), f.Params...) {
			mark(v.Type, i)
		}
		mark(f.Ret, i)
		mark(f.Body, i)
	}
	return l
}

// meaning writes what meaning does for a TName or an ECall.
func (p plain) meaning(name string, node int) string {
	m := p.mods[name]
	n := m.Nodes[node]
	if owner := p.owners(name)[node]; n.Kind == api.TName && n.Mod == "" && owner >= 0 {
		for i, v := range m.Fns[owner].Vars {
			if v.Name == n.Name {
				return fmt.Sprint(" -1 ", i, " 0")
			}
		}
	}
	if n.Mod != "" {
		if !slices.Contains(m.Imports, n.Mod) {
			m = api.Module{}
		} else {
			m = p.mods[n.Mod]
		}
	}
	if n.Kind == api.ECall {
		for i, f := range m.Fns {
			if f.Name == n.Name {
				return fmt.Sprint(m.Name, " ", i, " 0")
			}
		}
		return " 0 50"
	}
	for i, d := range m.Types {
		if d.Name == n.Name {
			return fmt.Sprint(m.Name, " ", i, " -1 0")
		}
	}
	return " 0 0 50"
}

func (p plain) fault(name string) (int, api.Errno) {
	m := p.mods[name]
	for i, d := range m.Types {
		for _, earlier := range m.Types[:i] {
			if earlier.Name == d.Name {
				return d.Type, api.ErrName
			}
		}
	}
	for i, f := range m.Fns {
		for _, earlier := range m.Fns[:i] {
			if earlier.Name == f.Name {
				return f.Body, api.ErrName
			}
		}
	}
	if p.lacks(name) {
		return -1, api.ErrName
	}
	if p.depends[[2]string{name, name}] {
		return -1, api.ErrCycle
	}
	for i, n := range m.Nodes {
		if (n.Kind == api.TName || n.Kind == api.ECall) && strings.HasSuffix(p.meaning(name, i), " 50") {
			return i, api.ErrName
		}
	}
	return 0, api.OK
}

// story writes what the program tells of one module: its fault, and of each node the owner and what it means.
func story(p *link.Program, name string) string {
	node, e := p.Fault(name)
	s := fmt.Sprint(name, " ", node, " ", e)
	m, _ := p.Module(name)
	for i, n := range m.Nodes {
		s += fmt.Sprint(", ", p.Owner(name, i))
		if n.Kind == api.TName || n.Kind == api.ECall {
			s += " " + meaning(p, name, i)
		}
	}
	return s
}

func (p plain) story(name string) string {
	node, e := p.fault(name)
	s := fmt.Sprint(name, " ", node, " ", e)
	for i, n := range p.mods[name].Nodes {
		s += fmt.Sprint(", ", p.owners(name)[i])
		if n.Kind == api.TName || n.Kind == api.ECall {
			s += " " + p.meaning(name, i)
		}
	}
	return s
}

// whole writes all that a program tells.
func whole(p *link.Program) string {
	s := fmt.Sprintln(p.Names(), p.Order())
	for _, name := range p.Names() {
		s += fmt.Sprintln(p.Below(name), story(p, name))
	}
	return s
}

func (p plain) whole() string {
	s := fmt.Sprintln(p.names(), p.order())
	for _, name := range p.names() {
		s += fmt.Sprintln(p.below(name), p.story(name))
	}
	return s
}

const rounds = 1500

// Programs at random answer as the definitions say.
func TestRandom(t *testing.T) {
	faults := map[api.Errno]int{}
	for seed := range int64(rounds) {
		texts := newMaker(seed).modules()
		l := parse(t, texts...)
		p := program(t, texts...)
		if got, want := whole(p), newPlain(l).whole(); got != want {
			t.Fatalf("seed %d: %q\n%s\nnot\n%s", seed, texts, got, want)
		}
		for _, name := range p.Names() {
			_, e := p.Fault(name)
			faults[e]++
		}
	}
	for _, e := range []api.Errno{api.OK, api.ErrName, api.ErrCycle} {
		if faults[e] < 50 {
			t.Errorf("only %d modules with the fault %d", faults[e], e)
		}
	}
}

func TestP5_6_AnyOrder(t *testing.T) {
	for seed := range int64(rounds) {
		r := newMaker(seed)
		l := parse(t, r.modules()...)
		if len(l) > 0 && r.Intn(4) == 0 {
			l = append(l, l[r.Intn(len(l))])
		}
		if r.Intn(8) == 0 {
			l = append(l, api.Module{})
		}
		p, e := link.Of(l)
		r.Shuffle(len(l), func(i, j int) { l[i], l[j] = l[j], l[i] })
		q, f := link.Of(l)
		if e != f || whole(p) != whole(q) {
			t.Fatalf("seed %d: %d, %d\n%s\nnot\n%s", seed, e, f, whole(p), whole(q))
		}
	}
}

func TestP5_7_AfterImports(t *testing.T) {
	for seed := range int64(rounds) {
		texts := newMaker(seed).modules()
		p, whole := program(t, texts...), newPlain(parse(t, texts...))
		order := p.Order()
		for i, name := range order {
			for _, imported := range whole.mods[name].Imports {
				if !slices.Contains(order[:i], imported) {
					t.Fatalf("seed %d: %s is not ahead of %s in %q", seed, imported, name, order)
				}
			}
			var want []string
			for _, other := range order[:i] {
				if whole.depends[[2]string{name, other}] {
					want = append(want, other)
				}
			}
			if below := p.Below(name); !slices.Equal(below, want) || len(want) != whole.countBelow(name) {
				t.Fatalf("seed %d: below %s: %q, not %q", seed, name, below, want)
			}
		}
	}
}

// What a module does not depend on is changed, added and dropped.
func TestP5_8_FaultOfItsOwn(t *testing.T) {
	for seed := range int64(rounds) {
		r := newMaker(seed)
		texts := r.modules()
		if len(texts) == 0 {
			continue
		}
		l := parse(t, texts...)
		p, whole := program(t, texts...), newPlain(l)
		name := l[0].Name
		near := append(l[:1:1], slices.DeleteFunc(slices.Clone(l[1:]), func(m api.Module) bool { return !whole.depends[[2]string{name, m.Name}] })...)
		known := map[string]bool{}
		for _, m := range near {
			known[m.Name] = true
			for _, imported := range m.Imports {
				known[imported] = true
			}
		}
		changed := near
		for _, other := range append(r.mods, "zz") {
			if !known[other] && r.Intn(3) > 0 {
				changed = append(changed, parse(t, r.module(other))...)
			}
		}
		q, e := link.Of(changed)
		if e != api.OK || story(p, name) != story(q, name) {
			t.Fatalf("seed %d: %d: %q\n%s\nnot\n%s", seed, e, texts, story(q, name), story(p, name))
		}
	}
}

// spoil changes everything in a module, up to the capacity of its lists.
func spoil(m api.Module) {
	for i := range m.Imports[:cap(m.Imports)] {
		m.Imports[:cap(m.Imports)][i] = "spoilt"
	}
	for i := range m.Types {
		m.Types[i] = api.Decl{Name: "Spoilt", Type: -7}
	}
	for i, f := range m.Fns {
		for _, l := range [][]api.Var{f.Vars, f.Params} {
			for j := range l {
				l[j] = api.Var{Name: "spoilt", Type: -7}
			}
		}
		m.Fns[i] = api.Fn{Name: "spoilt", Ret: -7, Body: -7}
	}
	for i, n := range m.Nodes {
		for j := range n.Keys {
			n.Keys[j] = "spoilt"
		}
		for j := range n.L {
			n.L[j] = -7
		}
		m.Nodes[i] = api.Node{Kind: -7}
	}
}

func TestP5_5_Memory(t *testing.T) {
	for seed := range int64(rounds / 5) {
		r := newMaker(seed)
		texts := r.modules()
		l, kept := parse(t, texts...), parse(t, texts...)
		room := append(slices.Clone(l), api.Module{Name: "room"})
		p, e := link.Of(room[:len(l)])
		if e != api.OK || room[len(l)].Name != "room" {
			t.Fatalf("seed %d: %d, %q", seed, e, room[len(l)].Name)
		}
		for i, m := range l {
			if !tree.Same(m, kept[i]) || !tree.Same(m, room[i]) {
				t.Fatalf("seed %d: %q was changed", seed, texts[i])
			}
		}
		before := whole(p)
		for i, m := range l {
			spoil(m)
			room[i] = api.Module{}
		}
		for _, name := range p.Names() {
			m, _ := p.Module(name)
			spoil(m)
			for _, list := range [][]string{p.Names(), p.Order(), p.Below(name)} {
				list = list[:cap(list)]
				for i := range list {
					list[i] = "spoilt"
				}
			}
		}
		if after := whole(p); after != before {
			t.Fatalf("seed %d: %q\n%s\nnot\n%s", seed, texts, after, before)
		}
	}
}
