package link_test

import (
	"fmt"
	"math"
	"slices"
	"strings"
	"testing"

	"armillary/api"
	"armillary/link"
	"armillary/tree"
)

func parse(t *testing.T, texts ...string) (l []api.Module) {
	t.Helper()
	for _, s := range texts {
		m, at, e := tree.Parse(s)
		if e != api.OK {
			t.Fatalf("%q: error %d at %d", s, e, at)
		}
		l = append(l, m)
	}
	return l
}

func program(t *testing.T, texts ...string) *link.Program {
	t.Helper()
	p, e := link.Of(parse(t, texts...))
	if p == nil || e != api.OK {
		t.Fatalf("%q: error %d", texts, e)
	}
	return p
}

// example is the chapter's.
func example(t *testing.T) *link.Program {
	t.Helper()
	return program(t, "module c import c", "module a import b fn f(x: b::T): int = b::g(x)", "module b type T = int fn g(x: T): T = x")
}

// places are ones that no module has, with those about the end of one with n nodes.
func places(n int) []int { return []int{-1, -2, math.MinInt, n, n + 1, math.MaxInt} }

func TestP5_1_Of(t *testing.T) {
	good := parse(t, "module a", "module b import z", "module c import c")
	twin := parse(t, "module a fn f(): int = 1")[0]
	bad := api.Module{Name: "A"}
	many := func(n int) (l []api.Module) {
		for i := range n {
			l = append(l, api.Module{Name: fmt.Sprintf("m%d", i)})
		}
		return l
	}
	unordered := tree.Copy(twin)
	unordered.Nodes[1].L = []int{1}
	for _, c := range []struct {
		name string
		l    []api.Module
		e    api.Errno
	}{
		{"nothing", nil, api.OK},
		{"an empty list", []api.Module{}, api.OK},
		{"three modules", good, api.OK},
		{"16 modules", many(16), api.OK},
		{"17 modules", many(17), api.ErrLimit},
		{"17 modules, one not valid", append(many(16), bad), api.ErrLimit},
		{"17 modules with one name", slices.Repeat(good[:1], 17), api.ErrLimit},
		{"a zero module", []api.Module{{}}, api.ErrArg},
		{"one that is not valid", append(slices.Clone(good), bad), api.ErrArg},
		{"one that is circular", []api.Module{unordered}, api.ErrArg},
		{"a name twice", append(slices.Clone(good), twin), api.ErrName},
		{"one module twice", []api.Module{twin, twin}, api.ErrName},
		{"a name twice, then one that is not valid", []api.Module{twin, twin, bad}, api.ErrArg},
		{"one that is not valid, then a name twice", []api.Module{bad, twin, twin}, api.ErrArg},
		{"one that is not valid, twice", []api.Module{bad, bad}, api.ErrArg},
	} {
		p, e := link.Of(c.l)
		if e != c.e || (p != nil) != (e == api.OK) {
			t.Errorf("%s: %v, %d, not %d", c.name, p, e, c.e)
		}
	}
}

func TestP5_1_Names(t *testing.T) {
	for _, c := range []struct{ names, want string }{
		{"", ""},
		{"c a b", "a b c"},
		{"b a_ a1 ab a a0", "a a0 a1 a_ ab b"},
		{"zzzzzzzzzzzzzzzz z zz y", "y z zz zzzzzzzzzzzzzzzz"},
	} {
		var texts []string
		for _, name := range strings.Fields(c.names) {
			texts = append(texts, "module "+name)
		}
		if got := program(t, texts...).Names(); !slices.Equal(got, strings.Fields(c.want)) {
			t.Errorf("%s: %q", c.names, got)
		}
	}
}

func TestP5_1_Module(t *testing.T) {
	l := parse(t, "module b import a type T = {x: int, y: a::T} fn f[A <: dyn](x: A): A = f[A](x)", "module a")
	p, _ := link.Of(l)
	for _, m := range l {
		if got, e := p.Module(m.Name); e != api.OK || !tree.Same(got, m) {
			t.Errorf("%s: %v, %d", m.Name, got, e)
		}
	}
	for _, name := range []string{"c", "", "A", "a ", "ab"} {
		if got, e := p.Module(name); e != api.ErrName || !tree.Same(got, api.Module{}) {
			t.Errorf("%q: %v, %d", name, got, e)
		}
	}
}

// What fault is told of the module m, next to others.
func TestP5_2_Fault(t *testing.T) {
	others := []string{
		"module a type T = int fn f(): int = 1",
		"module b import m type T = int fn f(): int = 1",
		"module c import b",
		"module d import e",
		"module e import d",
		"module g import z type T = int",
		"module h type T = int type T = null fn f(): U = g()",
	}
	for _, c := range []struct {
		m    string
		node int
		e    api.Errno
	}{
		{"", 0, api.OK},
		{"type T = int fn f(): T = f()", 0, api.OK},
		{"type T = T", 0, api.OK},
		{"import a fn f(x: a::T): int = a::f()", 0, api.OK},
		// names that are declared twice
		{"type T = int type T = int", 1, api.ErrName},
		{"type T = int type U = int type T = int | null type U = int", 4, api.ErrName},
		{"fn f(): int = 1 fn f(): int = 2", 3, api.ErrName},
		{"fn f(): int = 1 fn g(): int = 1 fn g(x: int): int = x + 1 fn f(): int = 1", 8, api.ErrName},
		{"type T = int type T = int fn f(): int = 1 fn f(): int = 2", 1, api.ErrName},
		{"type T = {a: int, b: U} type T = {a: int}", 4, api.ErrName},
		{"import z import m type T = V fn f(): U = 1 fn f(): U = g()", 4, api.ErrName},
		{"import z import m type T = V type T = V", 1, api.ErrName},
		// imports
		{"import z", -1, api.ErrName},
		{"import a import z", -1, api.ErrName},
		{"import z import m fn f(): T = g()", -1, api.ErrName},
		{"import m import z", -1, api.ErrName},
		{"import m", -1, api.ErrCycle},
		{"import b", -1, api.ErrCycle},
		{"import a import c", -1, api.ErrCycle},
		{"import c fn f(): T = g()", -1, api.ErrCycle},
		{"import d", 0, api.OK},
		{"import g", 0, api.OK},
		{"import h", 0, api.OK},
		{"import h fn f(x: h::T): int = h::f()", 0, api.OK},
		// names that do not resolve
		{"type T = U", 0, api.ErrName},
		{"type T = {a: int, b: U}", 1, api.ErrName},
		{"type T = {a: a::T}", 0, api.ErrName},
		{"import a type T = {a: a::T, b: a::U}", 1, api.ErrName},
		{"type T = m::T", 0, api.ErrName},
		{"import g type T = int fn f(): g::U = g::f()", 1, api.ErrName},
		{"import g fn f(): g::T = g::f()", 1, api.ErrName},
		{"fn f(): int = g()", 1, api.ErrName},
		{"fn f(): int = m::f()", 1, api.ErrName},
		{"fn f(): int = a::f()", 1, api.ErrName},
		{"fn f(): int = f(g(f(h())))", 1, api.ErrName},
		{"fn f(x: U): int = g()", 0, api.ErrName},
		{"fn f(x: int): int = g(x) fn h(): U = 1", 3, api.ErrName},
		{"fn f[A <: dyn](x: A): A = x fn g(x: A): int = 1", 4, api.ErrName},
		{"import a fn f[A <: dyn](x: a::A): A = x", 1, api.ErrName},
		{"fn f[A <: dyn](x: A): A = f[A | B](x)", 4, api.ErrName},
		{"type F = int fn f(): int = (1 as G)", 3, api.ErrName},
		// a variable and a field are no names of declarations
		{"fn f(): int = x.y + z", 0, api.OK},
	} {
		text := "module m " + c.m
		p := program(t, append([]string{text}, others...)...)
		if node, e := p.Fault("m"); node != c.node || e != c.e {
			t.Errorf("%s: %d, %d, not %d, %d", text, node, e, c.node, c.e)
		}
	}
}

func TestP5_2_FaultOfNone(t *testing.T) {
	p := example(t)
	for _, c := range []struct {
		name string
		node int
		e    api.Errno
	}{{"a", 0, api.OK}, {"b", 0, api.OK}, {"c", -1, api.ErrCycle}, {"d", -1, api.ErrName}, {"", -1, api.ErrName}, {"A", -1, api.ErrName}} {
		if node, e := p.Fault(c.name); node != c.node || e != c.e {
			t.Errorf("%q: %d, %d", c.name, node, e)
		}
	}
}

func TestP5_3_Order(t *testing.T) {
	for _, c := range []struct{ imports, order string }{
		{"", ""},
		{"a", "a"},
		{"b, a", "a b"},
		{"a b, b", "b a"},
		{"a z, b, c y, d", "b d"},
		// the smallest that has become possible comes next, even if a greater one waited longer
		{"a c, b, c", "b c a"},
		{"a d, b e, c, d, e", "c d a e b"},
		{"a b, b c, c d, d", "d c b a"},
		{"a, b a, c a b, d a b c", "a b c d"},
		{"a d, b a, c, d c", "c d a b"},
		{"a c d, b a, c, d", "c d a b"},
		{"a10, a2 a10, a1 a2", "a10 a2 a1"},
		// circles, and what depends on them
		{"a a", ""},
		{"a a, b", "b"},
		{"a b, b a, c", "c"},
		{"a b, b c, c a, d a, e, f e", "e f"},
		{"a b, b b, c b, d e, e", "e d"},
		// imports that lack, and what depends on them
		{"a z", ""},
		{"a b, b z, c", "c"},
		{"a b z, b, c a, d b", "b d"},
		{"a b, b c, c z, d", "d"},
	} {
		var texts []string
		for _, s := range strings.Split(c.imports, ", ") {
			if names := strings.Fields(s); len(names) > 0 {
				texts = append(texts, "module "+strings.Join(names, " import "))
			}
		}
		if got := program(t, texts...).Order(); !slices.Equal(got, strings.Fields(c.order)) {
			t.Errorf("%s: %q", c.imports, got)
		}
	}
}

// A module with other faults stands in the order.
func TestP5_3_OrderOfFaulty(t *testing.T) {
	p := program(t, "module a import b fn f(): b::U = g()", "module b type T = U type T = int")
	if got := p.Order(); !slices.Equal(got, []string{"b", "a"}) {
		t.Errorf("%q", got)
	}
	if got := p.Below("a"); !slices.Equal(got, []string{"b"}) {
		t.Errorf("%q", got)
	}
}

func TestP5_3_Below(t *testing.T) {
	p := program(t,
		"module a import d import b", "module b import e", "module c", "module d", "module e", "module f import a",
		"module x import x", "module y import x import c", "module z import c import w", "module v import z")
	if got, want := p.Order(), []string{"c", "d", "e", "b", "a", "f"}; !slices.Equal(got, want) {
		t.Errorf("order: %q", got)
	}
	for name, want := range map[string]string{
		"a": "d e b", "b": "e", "c": "", "d": "", "e": "", "f": "d e b a",
		"x": "", "y": "", "z": "", "v": "", "w": "", "": "", "A": "",
	} {
		if got := p.Below(name); !slices.Equal(got, strings.Fields(want)) {
			t.Errorf("%s: %q", name, got)
		}
	}
}

// A chain of 16 modules, each of which imports all that follow it.
func TestP5_3_Longest(t *testing.T) {
	var texts, want []string
	for i := range api.MaxModules {
		text := fmt.Sprintf("module m%02d", i)
		for j := i + 1; j < api.MaxModules; j++ {
			text += fmt.Sprintf(" import m%02d", j)
		}
		texts = append(texts, text)
		want = append(want, fmt.Sprintf("m%02d", api.MaxModules-1-i))
	}
	p := program(t, texts...)
	if got := p.Order(); !slices.Equal(got, want) {
		t.Errorf("%q", got)
	}
	if got := p.Below("m00"); !slices.Equal(got, want[:len(want)-1]) {
		t.Errorf("%q", got)
	}
}

func TestP5_4_Owner(t *testing.T) {
	const text = "module m type T = {a: int, b: null | T} type U = T fn f(): int = 1 fn g[A <: dyn, B <: {a: int}](x: A, y: B): (A) = (if x.a < 1 then g[int, {}](x, y) else (x as A)) fn h(): (int) = (((1)))"
	const want = "-1 -1 -1 -1 -1 -1 0 0 1 1 1 1 1 1 1 1 1 1 1 1 1 1 1 1 1 1 1 2 2"
	p := program(t, "module a", text)
	m, _ := p.Module("m")
	owners := strings.Fields(want)
	if len(m.Nodes) != len(owners) {
		t.Fatalf("%d nodes", len(m.Nodes))
	}
	for i, owner := range owners {
		if got := p.Owner("m", i); fmt.Sprint(got) != owner {
			t.Errorf("%d: %d, not %s", i, got, owner)
		}
	}
	for _, node := range places(len(m.Nodes)) {
		if got := p.Owner("m", node); got != -2 {
			t.Errorf("%d: %d", node, got)
		}
	}
	for _, name := range []string{"a", "b", "", "M"} {
		if got := p.Owner(name, 0); got != -2 {
			t.Errorf("%q: %d", name, got)
		}
	}
}

// Functions alone, types alone, and declarations with the same names.
func TestP5_4_OwnerOfAll(t *testing.T) {
	p := program(t, "module a fn f(): int = 1 fn f(): int = 1", "module b type T = int type T = int", "module c import c type T = T")
	for _, c := range []struct {
		module      string
		node, owner int
	}{{"a", 0, 0}, {"a", 1, 0}, {"a", 2, 1}, {"a", 3, 1}, {"a", 4, -2}, {"b", 0, -1}, {"b", 1, -1}, {"b", 2, -2}, {"c", 0, -1}} {
		if got := p.Owner(c.module, c.node); got != c.owner {
			t.Errorf("%s %d: %d, not %d", c.module, c.node, got, c.owner)
		}
	}
}

// meaning writes what Type or Fn tells of a node, the one that its kind asks for.
func meaning(p *link.Program, module string, node int) string {
	m, _ := p.Module(module)
	if m.Nodes[node].Kind == api.ECall {
		mod, fn, e := p.Fn(module, node)
		return fmt.Sprint(mod, " ", fn, " ", e)
	}
	mod, decl, param, e := p.Type(module, node)
	return fmt.Sprint(mod, " ", decl, " ", param, " ", e)
}

// What each name of the module m means, in the order of the nodes.
func TestP5_4_TypeFn(t *testing.T) {
	others := []string{
		"module a type U = int type T = null type T = bool fn g(): int = 1 fn f(): int = 1 fn f(): int = 2",
		"module b import z import b type T = int fn f(): int = 1",
		"module c import m type T = int fn f(): int = 1",
	}
	const lost, lostFn = " 0 0 50", " 0 50"
	for _, c := range []struct {
		m    string
		want []string
	}{
		{"type T = T", []string{"m 0 -1 0"}},
		{"type U = T type T = {a: U, b: V}", []string{"m 1 -1 0", "m 0 -1 0", lost}},
		{"type T = int type T = T", []string{"m 0 -1 0"}},
		{"fn f(): int = f() fn f(): int = f()", []string{"m 0 0", "m 0 0"}},
		{"fn f(): int = g() fn g(): int = h(f())", []string{"m 1 0", "m 0 0", lostFn}},
		// type parameters
		{"type A = int fn f[A <: B, B <: A](x: A | C): B = (x as A) fn g(x: A): B = x", []string{" -1 1 0", " -1 0 0", " -1 0 0", lost, " -1 1 0", " -1 0 0", "m 0 -1 0", lost}},
		{"fn f[A <: dyn](x: A): A = g[A](x) fn g[B <: dyn](x: A): B = f[{x: A, y: B}](x)", []string{" -1 0 0", " -1 0 0", " -1 0 0", "m 1 0", lost, " -1 0 0", lost, " -1 0 0", "m 0 0"}},
		{"type A = A fn f[C <: dyn, B <: dyn, A <: A](): int = 1", []string{"m 0 -1 0", " -1 2 0"}},
		{"import a fn f[T <: dyn](x: a::T, y: m::T): T = x", []string{"a 1 -1 0", lost, " -1 0 0"}},
		// other modules
		{"import a type T = a::T type U = {a: a::U, b: a::V}", []string{"a 1 -1 0", "a 0 -1 0", lost}},
		{"type T = a::T fn f(): int = a::f(m::f())", []string{lost, lostFn, lostFn}},
		{"import a fn f(): int = a::f(a::g(a::h(f(g()))))", []string{lostFn, "m 0 0", lostFn, "a 0 0", "a 1 0"}},
		{"import z import b type T = z::T type U = b::T fn f(): int = z::f(b::f())", []string{lost, "b 0 -1 0", "b 0 0", lostFn}},
		{"import m type T = m::T fn f[T <: m::T](): T = m::f()", []string{"m 0 -1 0", "m 0 -1 0", " -1 0 0", "m 0 0"}},
		{"import c type T = c::T fn f(): T = c::f()", []string{"c 0 -1 0", "m 0 -1 0", "c 0 0"}},
	} {
		text := "module m " + c.m
		m := parse(t, text)[0]
		p := program(t, append([]string{text}, others...)...)
		var got []string
		for i, n := range m.Nodes {
			if n.Kind == api.TName || n.Kind == api.ECall {
				got = append(got, meaning(p, "m", i))
			}
		}
		if !slices.Equal(got, c.want) {
			t.Errorf("%s: %q, not %q", text, got, c.want)
		}
	}
}

func TestP5_4_Range(t *testing.T) {
	p := example(t)
	m, _ := p.Module("a")
	for i, n := range m.Nodes {
		if _, _, _, e := p.Type("a", i); (e == api.ErrRange) != (n.Kind != api.TName) {
			t.Errorf("Type at %d: %d", i, e)
		}
		if _, _, e := p.Fn("a", i); (e == api.ErrRange) != (n.Kind != api.ECall) {
			t.Errorf("Fn at %d: %d", i, e)
		}
	}
	for _, name := range []string{"a", "d"} {
		want := map[string]api.Errno{"a": api.ErrRange, "d": api.ErrName}[name]
		for _, node := range append(places(len(m.Nodes)), 1) {
			if mod, decl, param, e := p.Type(name, node); mod != "" || decl != 0 || param != 0 || e != want {
				t.Errorf("Type of %s at %d: %q, %d, %d, %d", name, node, mod, decl, param, e)
			}
			if mod, fn, e := p.Fn(name, node); mod != "" || fn != 0 || e != want {
				t.Errorf("Fn of %s at %d: %q, %d, %d", name, node, mod, fn, e)
			}
		}
	}
}

func TestExamples(t *testing.T) {
	p := example(t)
	if got := fmt.Sprint(p.Names(), p.Order(), p.Below("a"), p.Below("b"), p.Below("c")); got != "[a b c] [b a] [b] [] []" {
		t.Error(got)
	}
	if got := p.Owner("a", 0); got != 0 {
		t.Error(got)
	}
	for _, c := range []struct{ got, want string }{
		{meaning(p, "a", 0), "b 0 -1 0"},
		{meaning(p, "a", 3), "b 0 0"},
		{meaning(p, "a", 1), " 0 0 9"},
		{meaning(p, "b", 2), "b 0 -1 0"},
	} {
		if c.got != c.want {
			t.Errorf("%q, not %q", c.got, c.want)
		}
	}
}

// All methods of nothing, and of a zero program.
func TestNilAndZero(t *testing.T) {
	for _, p := range []*link.Program{nil, {}} {
		if got := fmt.Sprint(p.Names(), p.Order(), p.Below("a"), p.Below(""), p.Owner("a", 0), p.Owner("", -1)); got != "[] [] [] [] 0 0" {
			t.Error(got)
		}
		if m, e := p.Module("a"); !tree.Same(m, api.Module{}) || e != api.ErrNil {
			t.Errorf("%v, %d", m, e)
		}
		if node, e := p.Fault("a"); node != 0 || e != api.ErrNil {
			t.Errorf("%d, %d", node, e)
		}
		if mod, decl, param, e := p.Type("a", -1); mod != "" || decl != 0 || param != 0 || e != api.ErrNil {
			t.Errorf("%q, %d, %d, %d", mod, decl, param, e)
		}
		if mod, fn, e := p.Fn("a", -1); mod != "" || fn != 0 || e != api.ErrNil {
			t.Errorf("%q, %d, %d", mod, fn, e)
		}
	}
}

// A program of no modules is not a zero one.
func TestProgramOfNone(t *testing.T) {
	p := program(t)
	if got := fmt.Sprint(p.Names(), p.Order(), p.Below("a"), p.Owner("a", 0)); got != "[] [] [] -2" {
		t.Error(got)
	}
	if _, e := p.Module("a"); e != api.ErrName {
		t.Error(e)
	}
	if node, e := p.Fault("a"); node != -1 || e != api.ErrName {
		t.Errorf("%d, %d", node, e)
	}
	if _, _, _, e := p.Type("a", 0); e != api.ErrName {
		t.Error(e)
	}
	if _, _, e := p.Fn("a", 0); e != api.ErrName {
		t.Error(e)
	}
}
