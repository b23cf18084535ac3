package print_test

import (
	"math"
	"reflect"
	"slices"
	"strconv"
	"strings"
	"testing"
	"unsafe"

	"armillary/api"
	"armillary/print"
	"armillary/tree"
)

// brief is a text, or the last part of a long one.
func brief(s string) string { return strconv.Quote(s[max(0, len(s)-200):]) }

// parsed reads a text that has no error.
func parsed(t *testing.T, s string) api.Module {
	t.Helper()
	m, at, e := tree.Parse(s)
	if at != 0 || e != api.OK {
		t.Fatalf("%s: error %d at %d", brief(s), e, at)
	}
	return m
}

// tidied returns the canonical text of a text that has no error.
func tidied(t *testing.T, s string) string {
	t.Helper()
	text, at, e := print.Tidy(s)
	if at != 0 || e != api.OK {
		t.Fatalf("%s: error %d at %d", brief(s), e, at)
	}
	return text
}

// A text in which each kind of node and each list occurs.
const rich = `module m
import a
import b
type T = null | {h: int, t: T}
type U = dyn | bool | 'a | a::T | (int | {})
fn f[A <: T, B <: {x: int}](x: A, y: B): int = let z = {p: x, q: y.x} in if x is null then 0 else z.q + 1
fn g(x: dyn): bool = if x is 'a then true == false else f[T, {x: int}](null, {x: 1}) < b::h((x as int), 'b)
`

// The texts of the nodes of rich.
var richNodes = []string{
	"null", "int", "T", "{h: int, t: T}", "null | {h: int, t: T}",
	"dyn", "bool", "'a", "a::T", "int", "{}", "int | {}", "dyn | bool | 'a | a::T | (int | {})",
	"T", "int", "{x: int}", "A", "B", "int", "x", "y", "y.x", "{p: x, q: y.x}", "x", "x is null", "0", "z", "z.q", "1", "z.q + 1",
	"if x is null then 0 else z.q + 1", "let z = {p: x, q: y.x} in if x is null then 0 else z.q + 1",
	"dyn", "bool", "x", "x is 'a", "true", "false", "true == false", "T", "int", "{x: int}", "null", "1", "{x: 1}", "f[T, {x: int}](null, {x: 1})",
	"x", "int", "(x as int)", "'b", "b::h((x as int), 'b)", "f[T, {x: int}](null, {x: 1}) < b::h((x as int), 'b)",
	"if x is 'a then true == false else f[T, {x: int}](null, {x: 1}) < b::h((x as int), 'b)",
}

// Canonical types, and other texts of the same types.
var types = [][]string{
	{"dyn", "(dyn)"}, {"null"}, {"bool"}, {"int", "((int))"}, {"'rec", "'rec#\n"}, {"T"}, {"b::T", "b :: T", "(b::T)"},
	{"{}", "{ }", "({})"}, {"{a: int}", "{a:int}", "{a: (int)}"}, {"{b: int, a: {c: null | {}}}", "{b:int,a:{c:(null|{})}}"},
	{"null | int", "null|int", "(null | int)", "(null) | (int)"}, {"dyn | 'a | T | b::T | {a: bool}", "dyn|'a|T|b::T|{a:bool}"},
	{"(int | null) | dyn", "(int|null)|(dyn)"}, {"int | (null | dyn)", "int | ((null | (dyn)))"}, {"(int | null) | (int | (null | dyn))"},
	{"{a: (int | null) | dyn}"},
}

// Canonical expressions, and other texts of the same expressions.
var exprs = [][]string{
	{"0", "(0)"}, {"2147483647"}, {"'a", "('a)"}, {"'let"}, {"true"}, {"false"}, {"null", "((null))"}, {"x", "(x)"},
	{"{}"}, {"{b: 1, a: {c: x}}", "{b:1,a:{c:(x)}}"}, {"{a: x + 1, b: x is int, c: let y = 1 in y, d: if x then 1 else 2}", "{a: (x + 1), b: (x is int), c: (let y = 1 in y), d: (if x then 1 else 2)}"},
	{"x.a", "x . a", "(x).a", "(x.a)"}, {"x.a.b", "(x.a).b"}, {"1.a"}, {"'t.a"}, {"null.a"}, {"{a: 1}.a", "({a: 1}).a"}, {"f(1).a"}, {"b::f[int](1).a"}, {"(x as int).a", "((x as int)).a"},
	{"(x + y).a"}, {"(x is int).a"}, {"(let x = 1 in x).a"}, {"(if x then y else z).a"}, {"(1 + x.a).b.c"},
	{"f()"}, {"f(x)", "f ( x )", "f((x))"}, {"f(1, x + 1, x is int, let y = 1 in y, if x then 1 else 2)", "f((1), (x + 1), (x is int), (let y = 1 in y), (if x then 1 else 2))"},
	{"b::f()", "b :: f ( )"}, {"f[int]()", "f [ (int) ] ( )"}, {"b::f[int | null, {a: (T | int) | dyn}](1)", "b::f[(int|null),{a:(T|int)|dyn}](1)"},
	{"if x then y else z", "if(x)then(y)else(z)"}, {"if x is int then x + 1 else if y then 1 else let z = 1 in z", "if (x is int) then (x + 1) else (if y then 1 else (let z = 1 in z))"},
	{"if if x then y else z then if x then y else z else z is int"}, {"if let x = y in x then 1 else 2"},
	{"x is null", "(x)is null"}, {"x is bool"}, {"x.a is int", "((x).a) is int"}, {"x is rec"}, {"x is 'a"}, {"x is 'null", "(x is 'null)"},
	{"let x = 1 in x", "let x=(1)in(x)"}, {"let x = let y = 1 in y in x is int", "let x = (let y = 1 in y) in (x is int)"}, {"let x = if a then b else c in x + 1"}, {"let x = a is int in x"},
	{"1 + 2", "1+2", "(1) + (2)", "(1 + 2)"}, {"x < y"}, {"x == y"}, {"1 + 2 + 3", "(1 + 2) + 3", "((1 + 2) + (3))"}, {"1 + (2 + 3)", "(1) + ((2 + 3))"},
	{"1 + 2 < 3 == 4", "((1 + 2) < 3) == 4"}, {"1 == (2 < (3 + 4))"}, {"1 + (2 + 3) + (4 + 5)", "(1 + (2 + 3)) + (4 + 5)"},
	{"(x is int) + (x is int)"}, {"(let x = 1 in x) + (let x = 1 in x)"}, {"(if x then y else z) + (if x then y else z)"}, {"(x is int) == y == (z is null)"},
	{"x.a + y.b.c"}, {"f(1) + {a: 1} + (x as int)"}, {"(1 + 2 as int) + (1 as int)"},
	{"(x as int)", "((x as int))", "((x) as (int))"}, {"(1 + 2 as int | null)", "((1 + 2) as (int | null))"}, {"(x is int as bool)"}, {"(let x = 1 in x as dyn)"}, {"(let x = (1 as dyn) in x as int)"}, {"(if x then y else z as {a: T})"},
	{"((x as dyn) as int)", "(((x as dyn)) as int)"}, {"((x as dyn).a as (int | null) | dyn)"},
}

func inType(s string) string { return "module m\ntype T = " + s + "\n" }
func inBody(s string) string { return "module m\nfn f(x: T): int = " + s + "\n" }

// Where a type may be, besides a declaration.
var typePlaces = []func(string) string{
	inType,
	func(s string) string { return "module m\nfn f[A <: " + s + "](): int = 1\n" },
	func(s string) string { return "module m\nfn f[A <: T, B <: " + s + ", C <: int](x: A): int = 1\n" },
	func(s string) string { return "module m\nfn f(x: " + s + "): int = 1\n" },
	func(s string) string { return "module m\nfn f(x: int, y: " + s + ", z: int): int = 1\n" },
	func(s string) string { return "module m\nfn f(): " + s + " = 1\n" },
	func(s string) string { return inBody("f[" + s + "]()") },
	func(s string) string { return inBody("f[int, " + s + "](1)") },
	func(s string) string { return inBody("(x as " + s + ")") },
}

// means tells that a text is parsed as a valid module, the text of which is canonical.
func means(t *testing.T, s, canonical string) {
	t.Helper()
	if got := tidied(t, s); got != canonical {
		t.Errorf("%s: tidied to %s; want %s", brief(s), brief(got), brief(canonical))
	}
	m := parsed(t, s)
	if got, e := print.Module(m); got != canonical || e != api.OK {
		t.Errorf("%s: the text %s, error %d; want %s", brief(s), brief(got), e, brief(canonical))
	}
	if e := print.Check(m); e != api.OK {
		t.Errorf("%s: error %d", brief(s), e)
	}
}

func TestP4_1_Types(t *testing.T) {
	for _, l := range types {
		for _, s := range l {
			for _, place := range typePlaces {
				means(t, place(s), place(l[0]))
			}
			m := parsed(t, inType(s))
			if got, e := print.Node(m, m.Types[0].Type); got != l[0] || e != api.OK {
				t.Errorf("%s: the node %q, error %d", s, got, e)
			}
		}
	}
}

func TestP4_1_Exprs(t *testing.T) {
	for _, l := range exprs {
		for _, s := range l {
			means(t, inBody(s), inBody(l[0]))
			m := parsed(t, inBody(s))
			if got, e := print.Node(m, m.Fns[0].Body); got != l[0] || e != api.OK {
				t.Errorf("%s: the node %q, error %d", s, got, e)
			}
			if got, e := print.Line(m, 0); got != "fn f(x: T): int = "+l[0] || e != api.OK {
				t.Errorf("%s: the line %q, error %d", s, got, e)
			}
		}
	}
}

func TestP4_1_Modules(t *testing.T) {
	for _, l := range [][]string{
		{"module m\n", "module m", " module # why\nm #"}, {rich, strings.ReplaceAll(rich, "\n", " "), strings.ReplaceAll(rich, " ", "\n")},
		{"module m\nimport b\nimport a\n", "module m import b import a"}, {"module m\nimport m\ntype B = int\ntype A = B\ntype A = null\n", "module m import m type B=int type A=B type A=null"},
		{"module m\nfn b(): int = 1\nfn a(): int = 2\nfn a(): int = 3\n", "module m fn b():int=1 fn a():int=2#\nfn a():int=3"},
		{"module m\nfn f[B <: int, A <: B](y: A, x: B): A | B = x\n", "module m fn f[B<:int,A<:B](y:A,x:B):A|B=x"},
	} {
		for _, s := range l {
			means(t, s, l[0])
		}
	}
}

func TestP4_1_Node(t *testing.T) {
	m := parsed(t, rich)
	if len(m.Nodes) != len(richNodes) {
		t.Fatalf("%d nodes", len(m.Nodes))
	}
	for n, want := range richNodes {
		if s, e := print.Node(m, n); s != want || e != api.OK {
			t.Errorf("the node %d is %q, error %d; want %q", n, s, e, want)
		}
	}
	for _, n := range []int{-1, -2, len(m.Nodes), len(m.Nodes) + 1, math.MaxInt, math.MinInt} {
		if s, e := print.Node(m, n); s != "" || e != api.ErrRange {
			t.Errorf("the node %d is %q, error %d", n, s, e)
		}
	}
	if s, e := print.Node(api.Module{Name: "m"}, 0); s != "" || e != api.ErrRange {
		t.Errorf("a node of none is %q, error %d", s, e)
	}
	// A node that is enclosed where it stands is not by itself.
	for _, x := range []struct {
		m api.Module
		n int
		s string
	}{
		{parsed(t, inBody("1 + (2 + 3)")), 5, "2 + 3"}, {parsed(t, inBody("(x is int).a")), 3, "x is int"},
		{parsed(t, inType("(int | null) | dyn")), 2, "int | null"}, {parsed(t, inBody("(x as int).a")), 4, "(x as int)"},
	} {
		if s, e := print.Node(x.m, x.n); s != x.s || e != api.OK {
			t.Errorf("the node %d is %q, error %d; want %q", x.n, s, e, x.s)
		}
	}
}

func TestP4_1_Line(t *testing.T) {
	m := parsed(t, rich)
	lines := strings.Split(rich, "\n")
	for fn := range m.Fns {
		if s, e := print.Line(m, fn); s != lines[5+fn] || e != api.OK {
			t.Errorf("the function %d is %q, error %d", fn, s, e)
		}
	}
	for _, fn := range []int{-1, -2, len(m.Fns), len(m.Fns) + 1, math.MaxInt, math.MinInt} {
		if s, e := print.Line(m, fn); s != "" || e != api.ErrRange {
			t.Errorf("the function %d is %q, error %d", fn, s, e)
		}
	}
	if s, e := print.Line(api.Module{Name: "m"}, 0); s != "" || e != api.ErrRange {
		t.Errorf("a function of none is %q, error %d", s, e)
	}
}

func TestP4_2(t *testing.T) {
	for _, s := range []string{
		"", "@", "module m fn f(): int = 1 ! 2", "module", "module m fn f(): int = 1 is int", "module m fn f(x: int, x: int): int = 1", "module m type T = int | ",
		inBody(strings.Repeat("(", 70)), inType("{" + strings.Repeat("a: int, ", 2)), inBody("x" + strings.Repeat(" + x", 2000)), strings.Repeat(" ", api.MaxText+1),
		"module m" + strings.Repeat(" type T = int", api.MaxDecls+1), "module \xff", "module m\x00",
	} {
		text, at, e := print.Tidy(s)
		_, wantAt, want := tree.Parse(s)
		if want == api.OK {
			t.Fatalf("%s has no error", brief(s))
		}
		if text != "" || at != wantAt || e != want {
			t.Errorf("%s: %q, error %d at %d; want error %d at %d", brief(s), text, e, at, want, wantAt)
		}
	}
	for _, x := range [][2]string{
		{"module m fn f ( ) : int = ( ( 1 + 2 ) + ( 3 ) ) + x . a", "module m\nfn f(): int = 1 + 2 + 3 + x.a\n"},
		{"module m fn f(): int = 1 + (2 + 3)", "module m\nfn f(): int = 1 + (2 + 3)\n"},
		{"module m type T = (int | null) | ((dyn))", "module m\ntype T = (int | null) | dyn\n"},
		{strings.Repeat("\n", api.MaxText-8) + "module m", "module m\n"},
	} {
		means(t, x[0], x[1])
	}
}

// memory is the address of a text.
func memory(s string) *byte { return unsafe.StringData(s) }

func TestP4_3(t *testing.T) {
	m, want := parsed(t, rich), parsed(t, rich)
	print.Check(m)
	print.Module(m)
	for n := -1; n <= len(m.Nodes); n++ {
		print.Node(m, n)
		print.Line(m, n)
	}
	m.Nodes[20].L = append(m.Nodes[20].L, 3)
	want.Nodes[20].L = append(want.Nodes[20].L, 3)
	print.Check(m)
	print.Module(m)
	if !reflect.DeepEqual(m, want) {
		t.Errorf("changed to %+v", m)
	}
	// Texts that are those of a name, or of what was given.
	m = parsed(t, inBody("x"))
	s, _ := print.Node(m, 2)
	if s != "x" || memory(s) == memory(m.Nodes[2].Name) {
		t.Errorf("%q is a name's own memory", s)
	}
	s = strings.Clone(rich)
	if text := tidied(t, s); text != s || memory(text) == memory(s) {
		t.Error("a text's own memory")
	}
}

func TestP4_3_UnusedCapacity(t *testing.T) {
	nodes := append(parsed(t, inBody("f(x)")).Nodes, make([]api.Node, 5)...)
	m := parsed(t, inBody("f(x)"))
	m.Nodes = nodes[:len(m.Nodes)]
	l := []int{2, 77, 78}
	m.Nodes[3].L = l[:1]
	if s, e := print.Module(m); s != inBody("f(x)") || e != api.OK {
		t.Errorf("%q, error %d", s, e)
	}
	if !slices.Equal(l, []int{2, 77, 78}) || !reflect.DeepEqual(nodes[len(m.Nodes):], make([]api.Node, 5)) {
		t.Error("unused capacity is changed")
	}
}
