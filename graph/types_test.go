package graph_test

import (
	"fmt"
	"math"
	"slices"
	"strings"
	"testing"

	"armillary/api"
	"armillary/graph"
	"armillary/link"
	"armillary/tree"
)

func parse(t *testing.T, texts ...string) (l []api.Module) {
	t.Helper()
	for _, s := range texts {
		m, at, e := tree.Parse(s)
		if e != api.OK {
			t.Fatalf("%.200q: error %d at %d", s, e, at)
		}
		l = append(l, m)
	}
	return l
}

func program(t *testing.T, texts ...string) *link.Program {
	t.Helper()
	p, e := link.Of(parse(t, texts...))
	if e != api.OK {
		t.Fatalf("%.200q: error %d", texts, e)
	}
	return p
}

// types returns the types of a module that has some.
func types(t *testing.T, p *link.Program, module string) *graph.Types {
	t.Helper()
	x, node, e := graph.Of(p, module)
	if x == nil || node != 0 || e != api.OK {
		t.Fatalf("%s: %v, %d, error %d", module, x, node, e)
	}
	return x
}

// spots are the positions of a module's nodes.
func spots(p *link.Program, x *graph.Types, module string) string {
	m, _ := p.Module(module)
	var l []int
	for i := range m.Nodes {
		l = append(l, x.At(module, i))
	}
	return strings.Trim(fmt.Sprint(l), "[]")
}

func TestExamples(t *testing.T) {
	p := program(t, "module m type T = null | {b: T, a: int} type U = T | T fn f[A <: dyn](x: A): U = x")
	x := types(t, p, "m")
	if got := show(x.Graph()); got != "null; int; {a: 1, b: 5}; dyn; variable 0 [3]; 0|2; 0|2" {
		t.Error(got)
	}
	if got := spots(p, x, "m"); got != "0 5 1 2 5 5 5 6 3 4 6 -1" {
		t.Error(got)
	}
	for text, want := range map[string]int{"module m type T = T | null": 2, "module m fn f[A <: {a: A}](): int = 1": 1} {
		if x, node, e := graph.Of(program(t, text), "m"); x != nil || node != want || e != api.ErrLoop {
			t.Errorf("%s: %v, %d, error %d", text, x, node, e)
		}
	}
}

// What graph the module m alone has, and where its nodes lie.
func TestP6_3_OneModule(t *testing.T) {
	for _, c := range []struct{ m, graph, at string }{
		{"", "", ""},
		{"fn f(): int = 1", "int", "0 -1"},
		{"type T = dyn type U = null type V = bool type W = int type X = 'is type Y = {}", "dyn; null; bool; int; 'is; {}", "0 1 2 3 4 5"},
		{"type T = int type U = int", "int; int", "0 1"},
		// names
		{"type T = int type U = T", "int", "0 0"},
		{"type T = U type U = V type V = int", "int", "0 0 0"},
		{"type T = {a: T}", "{a: 0}", "0 0"},
		{"type T = {a: U} type U = {a: T}", "{a: 1}; {a: 0}", "1 0 0 1"},
		// keys are sorted, with what they have
		{"type T = {c: int, b: null, a: bool}", "int; null; bool; {a: 2, b: 1, c: 0}", "0 1 2 3"},
		{"type T = {a2: int, a10: null, a: 'x, a_: 'y}", "int; null; 'x; 'y; {a: 2, a10: 1, a2: 0, a_: 3}", "0 1 2 3 4"},
		{"type T = {b: {d: int, c: T}, a: T | null}", "int; {c: 3, d: 0}; null; {a: 4, b: 1}; 3|2", "0 3 1 3 2 4 3"},
		// unions
		{"type T = int | null", "int; null; 0|1", "0 1 2"},
		{"type T = int | int", "int; int; 0|1", "0 1 2"},
		{"type T = (int | null) | bool", "int; null; bool; 0|1; 0|1|2", "0 1 3 2 4"},
		{"type T = bool | (int | (null | dyn))", "bool; int; null; dyn; 2|3; 1|2|3; 0|1|2|3", "0 1 2 3 4 5 6"},
		{"type T = U | bool type U = null | int type V = int | U | T", "bool; null; int; int; 1|2|0; 1|2; 3|1|2|0", "5 0 4 1 2 5 3 5 4 6"},
		{"type T = U | null | U type U = int | bool", "null; int; bool; 1|2|0; 1|2", "4 0 4 3 1 2 4"},
		{"type T = {a: T} | {b: T}", "{a: 2}; {b: 2}; 0|1", "2 0 2 1 2"},
		// unions whose expansion is a single node
		{"type T = int type U = T | T", "int", "0 0 0 0"},
		{"type T = int type U = T | (T | V) type V = T", "int", "0 0 0 0 0 0 0"},
		{"type T = {a: U} type U = T | T", "{a: 0}", "0 0 0 0 0"},
		{"type T = U | U type U = int | null", "int; null; 0|1; 0|1", "3 3 2 0 1 3"},
		{"type U = T | T type V = {a: U, b: U | U | null} type T = int", "null; {a: 2, b: 3}; int; 2|0", "2 2 2 2 2 2 0 3 1 2"},
		// type parameters
		{"type T = null | int fn f[A <: T](x: A | A): A = x", "null; int; variable 0 [5]; variable 0 [5]; variable 0 [5]; 0|1; 2|3", "0 1 5 5 2 3 6 4 -1"},
		{"fn f[A <: int](): A = 1", "int; variable 0 [0]", "0 1 -1"},
		{"fn f[A <: int, B <: null](x: B, y: A): B = x", "int; null; variable 1 [1]; variable 0 [0]; variable 1 [1]", "0 1 2 3 4 -1"},
		{"type T = null | {a: T} fn f[A <: T](x: A | A | null): {b: A, a: T} = x", "null; {a: 7}; variable 0 [7]; variable 0 [7]; null; variable 0 [7]; {a: 7, b: 5}; 0|1; 2|3|4", "0 7 1 7 7 2 3 4 8 5 7 6 -1"},
		{"fn f[A <: int | null](): int = 1 fn g[A <: {a: int}](x: A): A = x", "int; null; int; int; {a: 3}; variable 0 [4]; variable 0 [4]; 0|1", "0 1 7 2 -1 3 4 5 6 -1"},
		{"type A = bool type B = A fn f[A <: int](x: A, y: B): A = x fn g(x: A): B = x", "bool; int; variable 0 [1]; variable 0 [1]", "0 0 1 2 0 3 -1 0 0 -1"},
		{"fn f[A <: dyn](x: (A | A) | A): int = 1", "dyn; variable 0 [0]; variable 0 [0]; variable 0 [0]; int; 1|2; 1|2|3", "0 1 2 5 3 6 4 -1"},
		// types in expressions
		{"fn f[A <: dyn](x: A): A = f[A | null]((x as A))", "dyn; variable 0 [0]; variable 0 [0]; variable 0 [0]; null; variable 0 [0]; 3|4", "0 1 2 3 4 6 -1 5 -1 -1"},
		{"type T = int | null fn f(x: T): int = (x + 1 as {b: T | T, a: T})", "int; null; int; {a: 4, b: 5}; 0|1; 0|1", "0 1 4 4 2 -1 -1 -1 4 4 5 4 3 -1"},
		{"fn f(): int = {a: null, b: 'a, c: true}", "int", "0 -1 -1 -1 -1"},
	} {
		text := "module m " + c.m
		p := program(t, text)
		x := types(t, p, "m")
		if got := show(x.Graph()); got != c.graph {
			t.Errorf("%s: %s, not %s", text, got, c.graph)
		}
		if got := spots(p, x, "m"); got != c.at {
			t.Errorf("%s: at %s, not %s", text, got, c.at)
		}
	}
}

// A module that depends on others: first come all nodes but unions, module by module, then all unions.
func TestP6_3_Modules(t *testing.T) {
	p := program(t,
		"module c import b import a type V = a::T | b::T | null fn f[A <: b::U](x: A): a::T = (x as V)",
		"module a type T = int | null fn f[A <: T](x: A): int = (x as int | bool)",
		"module b import a type U = {z: U, y: a::T | a::T, x: T} type T = a::T | bool",
		"module d import a type T = a::T",
		"module e",
	)
	for _, c := range []struct{ module, modules, graph, at string }{
		{"a", "a", "int; null; variable 0 [6]; int; int; bool; 0|1; 4|5", "a: 0 1 6 6 2 3 -1 4 5 7 -1"},
		{"b", "a b",
			"int; null; variable 0 [8]; int; int; bool; {x: 11, y: 10, z: 6}; bool; 0|1; 4|5; 0|1; 0|1|7",
			"a: 0 1 8 8 2 3 -1 4 5 9 -1, b: 6 8 8 10 11 6 8 7 11"},
		{"c", "a b c",
			"int; null; variable 0 [10]; int; int; bool; {x: 13, y: 12, z: 6}; bool; null; variable 0 [6]; 0|1; 4|5; 0|1; 0|1|7; 0|1|7|8",
			"a: 0 1 10 10 2 3 -1 4 5 11 -1, b: 6 10 10 12 13 6 10 7 13, c: 10 13 8 14 6 9 10 -1 14 -1"},
		{"d", "a d", "int; null; variable 0 [6]; int; int; bool; 0|1; 4|5", "a: 0 1 6 6 2 3 -1 4 5 7 -1, d: 6"},
		{"e", "e", "", ""},
	} {
		x := types(t, p, c.module)
		if got := strings.Join(x.Modules(), " "); got != c.modules {
			t.Errorf("%s: modules %s", c.module, got)
		}
		if got := show(x.Graph()); got != c.graph {
			t.Errorf("%s: %s, not %s", c.module, got, c.graph)
		}
		var at []string
		for _, name := range p.Names() {
			if !slices.Contains(x.Modules(), name) {
				for node := range 20 {
					if got := x.At(name, node); got != -1 {
						t.Errorf("%s: %s %d at %d", c.module, name, node, got)
					}
				}
			} else if s := spots(p, x, name); s != "" {
				at = append(at, name+": "+s)
			}
		}
		if got := strings.Join(at, ", "); got != c.at {
			t.Errorf("%s: at %s, not %s", c.module, got, c.at)
		}
	}
}

func TestP6_3_Order(t *testing.T) {
	p := program(t, "module a import d import b", "module b import e", "module c", "module d", "module e", "module f import a")
	for module, want := range map[string]string{"a": "d e b a", "b": "e b", "c": "c", "f": "d e b a f"} {
		if got := strings.Join(types(t, p, module).Modules(), " "); got != want {
			t.Errorf("%s: %s", module, got)
		}
	}
}

func TestP6_3_NoPlace(t *testing.T) {
	p := program(t, "module m import n fn f(x: n::T): int = 1 + x", "module n type T = int", "module o import m type T = int")
	x := types(t, p, "m")
	for _, c := range []struct {
		module string
		nodes  []int
	}{
		{"m", []int{-1, 2, 3, 4, 5, 6, math.MaxInt, math.MinInt}},
		{"n", []int{-1, 1, 2, math.MaxInt, math.MinInt}},
		{"o", []int{-1, 0, 1}},
		{"p", []int{-1, 0, 1}},
		{"", []int{-1, 0, 1}},
		{"M", []int{0}},
	} {
		for _, node := range c.nodes {
			if got := x.At(c.module, node); got != -1 {
				t.Errorf("%q %d: %d", c.module, node, got)
			}
		}
	}
	if got := fmt.Sprint(x.At("m", 0), x.At("m", 1), x.At("n", 0)); got != "0 1 0" {
		t.Error(got)
	}
}

func TestP6_3_NilAndZero(t *testing.T) {
	for _, x := range []*graph.Types{nil, {}} {
		if got := fmt.Sprint(x.Graph(), x.Modules(), x.At("m", 0), x.At("", 0), x.At("m", -1)); got != "[] [] -1 -1 -1" {
			t.Error(got)
		}
	}
}

// refused tells that a module has no types, and why.
func refused(t *testing.T, p *link.Program, module string, node int, e api.Errno) {
	t.Helper()
	if x, n, f := graph.Of(p, module); x != nil || n != node || f != e {
		t.Errorf("%q: %v, %d, error %d, not %d, %d", module, x, n, f, node, e)
	}
}

func TestP6_2_NilAndZeroProgram(t *testing.T) {
	for _, module := range []string{"", "m"} {
		refused(t, nil, module, 0, api.ErrNil)
		refused(t, &link.Program{}, module, 0, api.ErrNil)
	}
	refused(t, program(t), "m", -1, api.ErrName)
}

// What is wrong with the names of the module m, or of others.
func TestP6_2_Names(t *testing.T) {
	others := []string{
		"module a import z",
		"module b import a",
		"module c import c",
		"module d import c",
		"module e type T = U",
		"module f import e",
		"module g type T = int type T = T | T type U = U",
		"module h import f type T = V",
		"module i type T = T",
		"module j fn f(): int = g()",
		"module k import i import j",
	}
	for _, c := range []struct {
		m    string
		node int
		e    api.Errno
	}{
		// its own
		{"import z", -1, api.ErrName},
		{"import m", -1, api.ErrCycle},
		{"type T = {a: int, b: U}", 1, api.ErrName},
		{"type T = T fn f(): int = g()", 2, api.ErrName},
		{"type T = int type T = T", 1, api.ErrName},
		{"fn f[A <: A](): int = 1 fn f(): int = 1", 4, api.ErrName},
		{"fn f[A <: A](x: B): int = 1", 1, api.ErrName},
		{"import e type T = U", 0, api.ErrName},
		{"import e type T = T type V = e::U", 1, api.ErrName},
		// it is not in the order
		{"import a", -1, api.ErrName},
		{"import b", -1, api.ErrName},
		{"import c", -1, api.ErrName},
		{"import d", -1, api.ErrName},
		{"import e import d type T = T", -1, api.ErrName},
		// another one's names
		{"import e", -1, api.ErrName},
		{"import f", -1, api.ErrName},
		{"import h", -1, api.ErrName},
		{"import g", -1, api.ErrName},
		{"import j", -1, api.ErrName},
		{"import e type T = T", -1, api.ErrName},
		// names come ahead of loops
		{"import k", -1, api.ErrName},
		{"import i import e", -1, api.ErrName},
		{"import i", -1, api.ErrLoop},
	} {
		refused(t, program(t, append([]string{"module m " + c.m}, others...)...), "m", c.node, c.e)
	}
	p := program(t, others...)
	for _, module := range []string{"", "m", "z", "A", "e "} {
		refused(t, p, module, -1, api.ErrName)
	}
}

func TestP6_2_Loops(t *testing.T) {
	for _, c := range []struct {
		m    string
		node int
	}{
		{"type T = T", 0},
		{"type T = T | T", 2},
		{"type T = null | (int | (bool | T))", 6},
		{"type T = U type U = T", 0},
		{"type T = U type U = V type V = T | int", 0},
		{"type T = int type U = U", 1},
		{"type T = int | V type U = {a: T} type V = null | W type W = V", 2},
		{"type T = {a: U} type U = U", 2},
		{"type T = {a: T} | {b: U} type U = int | U", 7},
		// one that expands to a type that loops
		{"type T = U type U = U", 0},
		{"type T = null | U type U = V type V = int | V", 2},
		{"type T = int type U = T | V type V = W | U type W = int", 3},
		// bounds
		{"fn f[A <: A](): int = 1", 0},
		{"fn f[A <: B, B <: dyn](): int = 1", 0},
		{"fn f[A <: dyn, B <: A](): int = 1", 1},
		{"fn f[A <: dyn, B <: {a: int, b: {c: null | {d: A}}}](): int = 1", 7},
		{"fn f[A <: int | B, B <: A](): int = 1", 2},
		{"fn f(): int = 1 fn g[A <: dyn](): int = 1 fn h[B <: dyn, A <: B, C <: {a: C}](): int = 1", 6},
		{"type A = int type B = {a: A} fn f[C <: A | B, B <: A](): int = 1", 5},
		// types come ahead of bounds
		{"type T = {a: int} type U = U fn f[A <: A](): int = 1", 2},
	} {
		refused(t, program(t, "module m "+c.m), "m", c.node, api.ErrLoop)
		// another one's loop is nowhere in this one, and comes ahead of its own
		p := program(t, "module m "+c.m, "module n import m", "module o import n type T = T")
		refused(t, p, "n", -1, api.ErrLoop)
		refused(t, p, "o", -1, api.ErrLoop)
	}
}

// What looks like a loop, and is none.
func TestP6_2_NoLoops(t *testing.T) {
	for _, m := range []string{
		"type T = {a: T}",
		"type T = null | {a: T | T}",
		"type T = U | U type U = {a: T}",
		"type T = U | {a: T} type U = V | V type V = {a: U | V | T}",
		"type T = U type V = U type U = int",
		"type T = U | V type U = W | W type V = W | W type W = int",
		"type A = {a: A} fn f[B <: A, C <: {a: A}](): int = 1",
		"fn f[A <: dyn](x: A | {a: A}): A = f[{a: A}](x)",
		"type A = {a: A} fn f[B <: A](x: B): B = x fn g[A <: dyn](x: A): A = x",
	} {
		types(t, program(t, "module m "+m), "m")
	}
	// a name of another module's type, or of another function's type parameter
	types(t, program(t, "module m import n type T = n::T fn f[A <: T](): int = 1", "module n type T = null | {a: T} type A = T"), "m")
	types(t, program(t, "module m import n type A = n::A fn f[B <: A, C <: n::A](): int = 1 fn g[A <: n::A](): A = 1", "module n type A = int"), "m")
}
