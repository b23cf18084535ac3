package sig_test

import (
	"fmt"
	"math"
	"slices"
	"strings"
	"testing"

	"armillary/api"
	"armillary/graph"
	"armillary/link"
	"armillary/sig"
	"armillary/tree"
)

// Nodes of a graph, by their kinds.
func plain(kind int) api.GNode          { return api.GNode{Kind: kind} }
func tag(name string) api.GNode         { return api.GNode{Kind: api.TTag, Name: name} }
func union(l ...int) api.GNode          { return api.GNode{Kind: api.TUnion, L: l} }
func variable(num, bound int) api.GNode { return api.GNode{Kind: api.TVar, Num: num, L: []int{bound}} }

func record(keys string, l ...int) api.GNode {
	return api.GNode{Kind: api.TRec, Keys: strings.Fields(keys), L: l}
}

// fn is a function of a signature.
func fn(name string, bounds, params []int, ret int) api.SigFn {
	return api.SigFn{Name: name, Bounds: bounds, Params: params, Ret: ret}
}

func upTo(n int) (l []int) {
	for i := range n {
		l = append(l, i)
	}
	return l
}

// inRow are texts with numbers from 0 on.
func inRow(n int, prefix string) (l []string) {
	for i := range n {
		l = append(l, fmt.Sprint(prefix, i))
	}
	return l
}

// parse returns the modules of texts.
func parse(t *testing.T, texts ...string) (l []api.Module) {
	t.Helper()
	for _, s := range texts {
		m, at, e := tree.Parse(s)
		if e != api.OK {
			t.Fatalf("%.500q: error %d at %d", s, e, at)
		}
		l = append(l, m)
	}
	return l
}

func program(t *testing.T, texts ...string) *link.Program {
	t.Helper()
	p, e := link.Of(parse(t, texts...))
	if e != api.OK {
		t.Fatalf("%.500q: error %d", texts, e)
	}
	return p
}

// of returns the signature of the module m of some texts, which has one.
func of(t *testing.T, texts ...string) api.Sig {
	t.Helper()
	s, node, e := sig.Of(program(t, texts...), "m")
	if node != 0 || e != api.OK {
		t.Fatalf("%.500q: %d, error %d", texts, node, e)
	}
	return s
}

// show writes a node, with all of its fields.
func show(n api.GNode) string {
	var s string
	rest := n // what is not written yet
	switch n.Kind {
	case api.TDyn, api.TNull, api.TBool, api.TInt:
		s = []string{"dyn", "null", "bool", "int"}[n.Kind-api.TDyn]
	case api.TTag:
		s, rest.Name = "'"+n.Name, ""
	case api.TUnion:
		s, rest.L = strings.Trim(strings.ReplaceAll(fmt.Sprint(n.L), " ", "|"), "[]"), nil
	case api.TVar:
		s, rest.Num, rest.L = fmt.Sprint("variable ", n.Num, " ", n.L), 0, nil
	case api.TRec:
		if len(n.Keys) == len(n.L) {
			s, rest.Keys, rest.L = "{"+strings.Join(fields(n), ", ")+"}", nil, nil
		}
	}
	if s == "" || rest.Num != 0 || rest.Name != "" || len(rest.Keys)+len(rest.L) > 0 {
		return fmt.Sprintf("%+v", n)
	}
	return s
}

func fields(n api.GNode) (l []string) {
	for i, key := range n.Keys {
		l = append(l, fmt.Sprint(key, ": ", n.L[i]))
	}
	return l
}

// showAll writes a signature, with all of its fields: types, functions and nodes.
func showAll(s api.Sig) string {
	var fns, nodes []string
	for _, f := range s.Fns {
		fns = append(fns, fmt.Sprintf("%s%v%v %d", f.Name, f.Bounds, f.Params, f.Ret))
	}
	for _, n := range s.Graph {
		nodes = append(nodes, show(n))
	}
	return fmt.Sprintf("%s %v %v; %s; %s", s.Module, s.Names, s.Types, strings.Join(fns, ", "), strings.Join(nodes, "; "))
}

// result writes a signature, or an error, beside which there must be nothing.
func result(s api.Sig, e api.Errno) string {
	switch got := showAll(s); {
	case e == api.OK:
		return got
	case got == " [] []; ; ":
		return failed(e)
	default:
		return failed(e) + " and " + got
	}
}

func failed(e api.Errno) string { return fmt.Sprintf("error %d", e) }

// Encodings are written here as texts, in which a byte may be any: num, text, nums and texts as chapter 1 says.

func num(n int) string {
	if n < 128 {
		return string([]byte{byte(n)})
	}
	return string([]byte{byte(n%128) | 128}) + num(n/128)
}

func text(s string) string { return num(len(s)) + s }

func nums(l ...int) string { return each(l, num) }

func texts(l ...string) string { return each(l, text) }

// each is the number of elements, and each of them.
func each[T any](l []T, write func(T) string) string {
	var b strings.Builder
	b.WriteString(num(len(l)))
	for _, x := range l {
		b.WriteString(write(x))
	}
	return b.String()
}

// encoded is the encoding of a signature, valid or not.
func encoded(s api.Sig) string {
	return text(s.Module) + texts(s.Names...) + nums(s.Types...) +
		each(s.Fns, func(f api.SigFn) string { return text(f.Name) + nums(f.Bounds...) + nums(f.Params...) + num(f.Ret) }) +
		each(s.Graph, func(n api.GNode) string {
			return num(n.Kind) + num(n.Num) + text(n.Name) + texts(n.Keys...) + nums(n.L...)
		})
}

// bytesOf is what Bytes returns, as a text.
func bytesOf(s api.Sig) string {
	b, e := sig.Bytes(s)
	if e == api.OK {
		return string(b)
	}
	return failed(e) + string(b)
}

// parsed is what Parse returns, as a text.
func parsed(s string) string { return result(sig.Parse([]byte(s))) }

// head is the beginning of an encoding.
func head(s string) string {
	if len(s) > 200 {
		return fmt.Sprintf("% X .. (%d bytes)", s[:200], len(s))
	}
	return fmt.Sprintf("% X", s)
}

// hex reads hexadecimal digits.
func hex(t *testing.T, s string) string {
	t.Helper()
	var b []byte
	for _, x := range strings.Fields(s) {
		var n byte
		if _, err := fmt.Sscanf(x, "%02X", &n); err != nil {
			t.Fatal(err)
		}
		b = append(b, n)
	}
	return string(b)
}

func nothing() api.Sig { return api.Sig{Module: "m"} }

const chapterText = "module m type T = {b: T, a: int} fn f[A <: T](x: A): int = 1"

// chapter is the signature of the chapter's example.
func chapter() api.Sig {
	return api.Sig{
		Module: "m",
		Names:  []string{"T"},
		Types:  []int{0},
		Fns:    []api.SigFn{fn("f", []int{0}, []int{2}, 1)},
		Graph:  []api.GNode{record("a b", 1, 0), plain(api.TInt), variable(0, 0)},
	}
}

const richText = `module rich
type List = null | {tl: List, hd: int}
type T2 = {}
fn map[A <: List](x: A, y: 'tag): A = x
fn f_2(): dyn = (1 as 'nowhere)
fn g[A <: bool, B <: int](x: B | A): {a: A} = x
`

// rich has several of everything.
func rich() api.Sig {
	return api.Sig{
		Module: "rich",
		Names:  []string{"List", "T2"},
		Types:  []int{0, 4},
		Fns: []api.SigFn{
			fn("map", []int{0}, []int{5, 6}, 5),
			fn("f_2", nil, nil, 7),
			fn("g", []int{8, 3}, []int{9}, 12),
		},
		Graph: []api.GNode{
			union(1, 2),
			plain(api.TNull),
			record("hd tl", 3, 0),
			plain(api.TInt),
			record(""),
			variable(0, 0),
			tag("tag"),
			plain(api.TDyn),
			plain(api.TBool),
			union(10, 11),
			variable(0, 8),
			variable(1, 3),
			record("a", 10),
		},
	}
}

const bytesOfRich = `
04 72 69 63 68
02 04 4C 69 73 74 02 54 32
02 00 04
03
03 6D 61 70 01 00 02 05 06 05
03 66 5F 32 00 00 07
01 67 02 08 03 01 09 0C
0D
08 00 00 00 02 01 02
02 00 00 00 00
07 00 00 02 02 68 64 02 74 6C 02 03 00
04 00 00 00 00
07 00 00 00 00
09 00 00 00 01 00
05 00 03 74 61 67 00 00
01 00 00 00 00
03 00 00 00 00
08 00 00 00 02 0A 0B
09 00 00 00 01 08
09 01 00 00 01 03
07 00 00 01 01 61 01 0A
`

func TestExamples(t *testing.T) {
	s := of(t, chapterText)
	if got, want := showAll(s), "m [T] [0]; f[0][2] 1; {a: 1, b: 0}; int; variable 0 [0]"; got != want {
		t.Errorf("%s, not %s", got, want)
	}
	if !sig.Same(s, chapter()) || showAll(chapter()) != showAll(s) {
		t.Errorf("%s is not %s", showAll(s), showAll(chapter()))
	}
	if got := fmt.Sprint(sig.Fn(s, "f"), sig.Fn(s, "g"), sig.Type(s, "T"), sig.Type(s, "U")); got != "0 -1 0 -1" {
		t.Error(got)
	}
	const want = "01 6D 01 01 54 01 00 01 01 66 01 00 01 02 01 03 07 00 00 02 01 61 01 62 02 01 00 04 00 00 00 00 09 00 00 00 01 00"
	if got := bytesOf(s); got != hex(t, want) {
		t.Errorf("% X, not %s", got, want)
	}
}

func TestP15_1_Rich(t *testing.T) {
	s, node, e := sig.Of(program(t, richText), "rich")
	if node != 0 || result(s, e) != showAll(rich()) {
		t.Errorf("%d, %s, not %s", node, result(s, e), showAll(rich()))
	}
}

// What signature the module m has, alone or beside others.
func TestP15_1(t *testing.T) {
	const b = "module b type T = int type U = {x: T} type W = null | {w: W, u: U} fn f(x: T): 'b = x"
	for _, c := range []struct{ m, want string }{
		{"", "[] []; ; "},
		{"type T = dyn", "[T] [0]; ; dyn"},
		{"fn f(): null = 1", "[] []; f[][] 0; null"},
		// declarations are in their order, whatever they are called
		{"type Z = int type A = null type M = bool fn z(): Z = 1 fn a(): A = 1 fn m(): M = 1", "[Z A M] [0 1 2]; z[][] 0, a[][] 1, m[][] 2; int; null; bool"},
		// first come the types, then, function by function, what it has
		{"type T = int fn f[A <: null, B <: bool](x: dyn, y: 'a): 'b = 1 fn g[C <: 'c](z: {}): {f: int} = 1", "[T] [0]; f[1 2][3 4] 5, g[6][7] 8; int; null; bool; dyn; 'a; 'b; 'c; {}; {f: 0}"},
		{"fn f(x: 'p): 'r = 1 fn g(): 'p = 1", "[] []; f[][0] 1, g[][] 0; 'p; 'r"},
		{"type T = {a: {b: 'x}, c: 'y} type U = 'y fn f(x: {b: 'x}): 'x = 1", "[T U] [0 3]; f[][1] 2; {a: 1, c: 3}; {b: 2}; 'x; 'y"},
		// equal types are one
		{"type T = int type U = T type V = int fn f(x: int, y: V): U = 1", "[T U V] [0 0 0]; f[][0 0] 0; int"},
		{"type T = {a: T} type U = {a: {a: U}}", "[T U] [0 0]; ; {a: 0}"},
		{"type T = null | {a: T} type U = {a: T} | null | U2 type U2 = null", "[T U U2] [0 0 1]; ; 1|2; null; {a: 0}"},
		{"type T = {a: int} | {a: T2} type T2 = int", "[T T2] [0 1]; ; {a: 1}; int"},
		// unions are in the order of chapter 7
		{"fn f(x: {} | 'b | int | bool | null | dyn | 'a): int | null = 1", "[] []; f[][0] 8; 1|2|3|4|5|6|7; dyn; null; bool; int; 'a; 'b; {}; 2|4"},
		// type parameters are their numbers and bounds
		{"fn f[A <: int](x: A): A = 1 fn g[B <: int](y: B): B = 1", "[] []; f[0][1] 1, g[0][1] 1; int; variable 0 [0]"},
		{"fn f[A <: int](x: A): A = 1 fn g[A <: null](x: A): A = 1", "[] []; f[0][1] 1, g[2][3] 3; int; variable 0 [0]; null; variable 0 [2]"},
		{"fn f[A <: int, B <: int](x: B, y: A): B | A = 1", "[] []; f[0 0][1 2] 3; int; variable 1 [0]; variable 0 [0]; 2|1"},
		{"fn f[A <: int, B <: null](): int = 1", "[] []; f[0 1][] 0; int; null"},
		{"type A = bool fn f[A <: int](x: A): A = 1 fn g(x: A): int = 1", "[A] [0]; f[1][2] 2, g[][0] 1; bool; int; variable 0 [1]"},
		{"fn f[A <: null | {a: int}](x: A | null): {v: A} = 1", "[] []; f[0][4] 6; 1|2; null; {a: 3}; int; 1|5; variable 0 [0]; {v: 5}"},
		// bodies, and their types, show nothing
		{"fn f(): int = (null as {zz: 'a | 'b}) fn g(x: int): int = f() + g[{}, 'c](x)", "[] []; f[][] 0, g[][0] 0; int"},
		// types of other modules
		{"import b", "[] []; ; "},
		{"import b type T = b::T", "[T] [0]; ; int"},
		{"import b type T = b::W fn f[A <: b::U](x: A): b::T = b::f(1)", "[T] [0]; f[3][5] 4; 1|2; null; {u: 3, w: 0}; {x: 4}; int; variable 0 [3]"},
		{"import b type T = {x: int} type U = b::U fn f(x: b::U): T = 1", "[T U] [0 0]; f[][0] 0; {x: 1}; int"},
	} {
		s := of(t, "module m "+c.m, b)
		if got := showAll(s); got != "m "+c.want {
			t.Errorf("%s: %s, not %s", c.m, got, "m "+c.want)
		}
		if e := sig.Check(s); e != api.OK {
			t.Errorf("%s: error %d", c.m, e)
		}
	}
}

// Through imports of imports: each module has the types on which it depends, and shows its own.
func TestP15_1_Below(t *testing.T) {
	p := program(t,
		"module c import b type T = {c: b::T}",
		"module a type T = {a: 'a} fn f(x: T): T = x",
		"module b import a type T = {b: a::T} fn f(x: a::T): T = x",
		"module z type Z = int",
	)
	for module, want := range map[string]string{
		"a": "a [T] [0]; f[][0] 0; {a: 1}; 'a",
		"b": "b [T] [0]; f[][1] 0; {b: 1}; {a: 2}; 'a",
		"c": "c [T] [0]; ; {c: 1}; {b: 2}; {a: 3}; 'a",
		"z": "z [Z] [0]; ; int",
	} {
		s, node, e := sig.Of(p, module)
		if got := result(s, e); node != 0 || got != want {
			t.Errorf("%s: %d, %s, not %s", module, node, got, want)
		}
	}
}

// refused tests that a module has no signature, and why; graph.Of says so, too.
func refused(t *testing.T, p *link.Program, module string, node int, e api.Errno) {
	t.Helper()
	s, n, f := sig.Of(p, module)
	if n != node || result(s, f) != failed(e) {
		t.Errorf("%s: %s at %d, not error %d at %d", module, result(s, f), n, e, node)
	}
	if _, n, f := graph.Of(p, module); n != node || f != e {
		t.Errorf("%s: graph.Of: error %d at %d", module, f, n)
	}
}

func TestP15_1_Errors(t *testing.T) {
	for _, p := range []*link.Program{nil, {}} {
		for _, module := range []string{"", "m", "M", "m\x00"} {
			refused(t, p, module, 0, api.ErrNil)
		}
	}
	empty := program(t)
	for _, module := range []string{"", "m", "M"} {
		refused(t, empty, module, -1, api.ErrName)
	}
	for _, c := range []struct {
		text string
		node int
		e    api.Errno
	}{
		{"type T = int type T = null", 1, api.ErrName},
		{"fn f(): int = 1 fn f(): null = 2", 3, api.ErrName},
		{"type T = {a: U}", 0, api.ErrName},
		{"fn f(): int = g()", 1, api.ErrName},
		{"fn f(): int = (1 as U)", 2, api.ErrName},
		{"import nowhere type T = int", -1, api.ErrName},
		{"import m type T = int", -1, api.ErrCycle},
		{"import ring type T = int", -1, api.ErrCycle},
		{"import faulty type T = int", -1, api.ErrName},
		{"import lone type T = int", -1, api.ErrName},
		{"import loops type T = int", -1, api.ErrLoop},
		{"type T = int type U = U", 1, api.ErrLoop},
		{"type T = T | null", 2, api.ErrLoop},
		{"fn f[A <: {a: A}](): int = 1", 1, api.ErrLoop},
		{"type T = " + wide(2001), -1, api.ErrLimit},
		{"fn f(x: " + wide(1999) + "): int = (1 as null)", -1, api.ErrLimit},
	} {
		p := program(t, "module m "+c.text,
			"module ring import m", "module faulty type T = V", "module lone import nowhere", "module loops type T = T")
		refused(t, p, "m", c.node, c.e)
		refused(t, p, "M", -1, api.ErrName)
	}
}

// wide writes a type of so many nodes, none of them a union.
func wide(nodes int) string {
	if nodes == 1 {
		return "int"
	}
	left := nodes - 1
	parts := min(left, api.MaxParts)
	var fields []string
	for i := range parts {
		share := left / (parts - i)
		left -= share
		fields = append(fields, fmt.Sprintf("f%d: %s", i, wide(share)))
	}
	return "{" + strings.Join(fields, ", ") + "}"
}

// A change makes a signature another one.
type change struct {
	what string
	do   func(s *api.Sig)
}

// wrong are changes of the rich signature that make it none; all of them can be encoded.
func wrong() []change {
	return slices.Concat(wrongNames(), wrongPlaces(), wrongGraphs())
}

func wrongNames() (l []change) {
	for _, name := range []string{"", "Rich", "1", "_a", "a b", "a\n", "m\x00", "aB", "module", "int", "fn", "rec", "m2345678901234567", strings.Repeat("m", 65536), "é"} {
		l = append(l,
			change{"module " + name, func(s *api.Sig) { s.Module = name }},
			change{"function " + name, func(s *api.Sig) { s.Fns[1].Name = name }},
			change{"last function " + name, func(s *api.Sig) { s.Fns[2].Name = name }},
		)
	}
	for _, name := range []string{"", "t", "list", "1", "T_", "T T", "Té", "T\x00", "T2345678901234567", "int", "_T"} {
		l = append(l,
			change{"type " + name, func(s *api.Sig) { s.Names[0] = name }},
			change{"last type " + name, func(s *api.Sig) { s.Names[1] = name }},
		)
	}
	return append(l,
		change{"two types of a name", func(s *api.Sig) { s.Names[1] = "List" }},
		change{"two functions of a name", func(s *api.Sig) { s.Fns[2].Name = "map" }},
		change{"two functions of a name in a row", func(s *api.Sig) { s.Fns[1].Name = "map" }},
		change{"65 types", func(s *api.Sig) { s.Names, s.Types = moreTypes(s, 65) }},
		change{"8000 types", func(s *api.Sig) { s.Names, s.Types = moreTypes(s, 8000) }},
		change{"fewer names", func(s *api.Sig) { s.Names = s.Names[:1] }},
		change{"no names", func(s *api.Sig) { s.Names = nil }},
		change{"more names", func(s *api.Sig) { s.Names = append(s.Names, "U") }},
		change{"more types", func(s *api.Sig) { s.Types = append(s.Types, 0) }},
		change{"fewer types", func(s *api.Sig) { s.Types = s.Types[:1] }},
	)
}

// moreTypes are the types of a signature, and others, up to a number, which lie where the first one does.
func moreTypes(s *api.Sig, n int) ([]string, []int) {
	names, types := s.Names, s.Types
	for i := len(names); i < n; i++ {
		names, types = append(names, fmt.Sprint("More", i)), append(types, 0)
	}
	return names, types
}

// moreFns are the functions of a signature, and others, up to a number.
func moreFns(s *api.Sig, n int) []api.SigFn {
	l := s.Fns
	for i := len(l); i < n; i++ {
		l = append(l, fn(fmt.Sprint("more", i), []int{0}, []int{0, 1}, 2))
	}
	return l
}

func wrongPlaces() (l []change) {
	for _, n := range []int{13, 14, 127, 128, 2000, 1 << 32, api.MaxNumber} {
		l = append(l,
			change{"types out of the graph", func(s *api.Sig) { s.Types[1] = n }},
			change{"bounds out of the graph", func(s *api.Sig) { s.Fns[2].Bounds[1] = n }},
			change{"parameters out of the graph", func(s *api.Sig) { s.Fns[0].Params[0] = n }},
			change{"results out of the graph", func(s *api.Sig) { s.Fns[1].Ret = n }},
		)
	}
	return append(l,
		change{"17 bounds", func(s *api.Sig) { s.Fns[2].Bounds = append(s.Fns[2].Bounds, make([]int, 15)...) }},
		change{"8000 bounds", func(s *api.Sig) { s.Fns[2].Bounds = append(s.Fns[2].Bounds, make([]int, 7998)...) }},
		change{"17 parameters", func(s *api.Sig) { s.Fns[2].Params = append(s.Fns[2].Params, make([]int, 16)...) }},
		change{"8000 parameters", func(s *api.Sig) { s.Fns[2].Params = append(s.Fns[2].Params, make([]int, 7999)...) }},
		// all nodes are there, but not in the order of these roots
		change{"types changed about", func(s *api.Sig) { s.Types[0], s.Types[1] = 4, 0 }},
		change{"parameters changed about", func(s *api.Sig) { s.Fns[0].Params = []int{6, 5} }},
		change{"functions changed about", func(s *api.Sig) { s.Fns[1], s.Fns[2] = s.Fns[2], s.Fns[1] }},
		change{"bounds and parameters changed about", func(s *api.Sig) { f := &s.Fns[2]; f.Bounds, f.Params = f.Params, f.Bounds }},
		change{"a parameter and a result changed about", func(s *api.Sig) { f := &s.Fns[2]; f.Params[0], f.Ret = f.Ret, f.Params[0] }},
		// a node is not reached any more
		change{"no types", func(s *api.Sig) { s.Names, s.Types = nil, nil }},
		change{"another type", func(s *api.Sig) { s.Types[1] = 3 }},
		change{"no functions", func(s *api.Sig) { s.Fns = nil }},
		change{"fewer functions", func(s *api.Sig) { s.Fns = s.Fns[:2] }},
		change{"fewer bounds", func(s *api.Sig) { s.Fns[2].Bounds = s.Fns[2].Bounds[1:] }},
		change{"fewer parameters", func(s *api.Sig) { s.Fns[0].Params = s.Fns[0].Params[:1] }},
		change{"another result", func(s *api.Sig) { s.Fns[1].Ret = 0 }},
		change{"another last result", func(s *api.Sig) { s.Fns[2].Ret = 10 }},
		// a node is reached earlier
		change{"another parameter", func(s *api.Sig) { s.Fns[0].Params[0] = 7 }},
		change{"another bound", func(s *api.Sig) { s.Fns[0].Bounds[0] = 7 }},
		change{"a function more ahead of the others", func(s *api.Sig) { s.Fns = slices.Insert(s.Fns, 0, fn("more", nil, nil, 12)) }},
	)
}

func wrongGraphs() []change {
	return []change{
		{"no graph", func(s *api.Sig) { s.Graph = nil }},
		{"fewer nodes", func(s *api.Sig) { s.Graph = s.Graph[:12] }},
		{"a node that is not reached", func(s *api.Sig) { s.Graph = append(s.Graph, tag("more")) }},
		{"a node that is not reached ahead of all", func(s *api.Sig) { s.Graph = append([]api.GNode{tag("more")}, s.Graph...) }},
		{"an equal node", func(s *api.Sig) { s.Graph = append(s.Graph, plain(api.TInt)); s.Fns[2].Ret = 13 }},
		{"members in another order", func(s *api.Sig) { s.Graph[0].L = []int{2, 1} }},
		{"later members in another order", func(s *api.Sig) { s.Graph[9].L = []int{11, 10} }},
		{"one member", func(s *api.Sig) { s.Graph[9].L = []int{10} }},
		{"a member twice", func(s *api.Sig) { s.Graph[9].L = []int{10, 11, 11} }},
		{"equal members", func(s *api.Sig) { s.Graph[11] = s.Graph[10] }},
		{"a union as a member", func(s *api.Sig) { s.Graph[9].L = []int{10, 11, 0} }},
		{"a child out of the graph", func(s *api.Sig) { s.Graph[12].L[0] = 13 }},
		{"a child far out of the graph", func(s *api.Sig) { s.Graph[12].L[0] = api.MaxNumber }},
		{"a bound out of the graph", func(s *api.Sig) { s.Graph[11].L[0] = 13 }},
		{"keys in another order", func(s *api.Sig) { n := &s.Graph[2]; n.Keys, n.L = []string{"tl", "hd"}, []int{0, 3} }},
		{"a key twice", func(s *api.Sig) { s.Graph[2].Keys[1] = "hd" }},
		{"a key that is no name", func(s *api.Sig) { s.Graph[2].Keys[0] = "Hd" }},
		{"fewer keys", func(s *api.Sig) { s.Graph[2].Keys = s.Graph[2].Keys[:1] }},
		{"fewer children", func(s *api.Sig) { s.Graph[2].L = s.Graph[2].L[:1] }},
		{"no kind", func(s *api.Sig) { s.Graph[3].Kind = 0 }},
		{"a name's kind", func(s *api.Sig) { s.Graph[3].Kind = api.TName }},
		{"an expression's kind", func(s *api.Sig) { s.Graph[3].Kind = api.EInt }},
		{"a great kind", func(s *api.Sig) { s.Graph[3].Kind = 1<<32 + api.TInt }},
		{"a plain node with a number", func(s *api.Sig) { s.Graph[3].Num = 1 }},
		{"a plain node with a name", func(s *api.Sig) { s.Graph[3].Name = "int" }},
		{"a plain node with keys", func(s *api.Sig) { s.Graph[3].Keys = []string{"a"} }},
		{"a plain node with children", func(s *api.Sig) { s.Graph[3].L = []int{0} }},
		{"a plain node with a field", func(s *api.Sig) { s.Graph[3].Keys, s.Graph[3].L = []string{"a"}, []int{0} }},
		{"a record with a name", func(s *api.Sig) { s.Graph[2].Name = "a" }},
		{"a record with a number", func(s *api.Sig) { s.Graph[2].Num = 3 }},
		{"a tag with a number", func(s *api.Sig) { s.Graph[6].Num = 3 }},
		{"a tag without a name", func(s *api.Sig) { s.Graph[6].Name = "" }},
		{"a tag whose name is none", func(s *api.Sig) { s.Graph[6].Name = "Tag" }},
		{"a tag with a great name", func(s *api.Sig) { s.Graph[6].Name = strings.Repeat("t", 17) }},
		{"a union with keys", func(s *api.Sig) { s.Graph[0].Keys = []string{"a", "b"} }},
		{"a variable with two bounds", func(s *api.Sig) { s.Graph[11].L = []int{3, 3} }},
		{"a variable without a bound", func(s *api.Sig) { s.Graph[11].L = nil }},
		{"a variable with a key", func(s *api.Sig) { s.Graph[11].Keys = []string{"a"} }},
		{"a variable of a great number", func(s *api.Sig) { s.Graph[11].Num = 16 }},
		{"another child", func(s *api.Sig) { s.Graph[2].L[0] = 8 }},
	}
}

// negative are changes of the rich signature that make it none, and that cannot be encoded.
func negative() (l []change) {
	for _, n := range []int{-1, -2, math.MinInt, math.MaxInt, api.MaxNumber + 1} {
		l = append(l,
			change{"a type", func(s *api.Sig) { s.Types[0] = n }},
			change{"a bound", func(s *api.Sig) { s.Fns[0].Bounds[0] = n }},
			change{"a parameter", func(s *api.Sig) { s.Fns[0].Params[1] = n }},
			change{"a result", func(s *api.Sig) { s.Fns[1].Ret = n }},
			change{"a kind", func(s *api.Sig) { s.Graph[3].Kind = n }},
			change{"a number", func(s *api.Sig) { s.Graph[11].Num = n }},
			change{"a child", func(s *api.Sig) { s.Graph[2].L[0] = n }},
			change{"a member", func(s *api.Sig) { s.Graph[0].L[0] = n }},
		)
	}
	return append(l,
		change{"a great module", func(s *api.Sig) { s.Module = strings.Repeat("m", 65537) }},
		change{"8001 types", func(s *api.Sig) { s.Names, s.Types = moreTypes(s, 8001) }},
		change{"8001 bounds", func(s *api.Sig) { s.Fns[0].Bounds = make([]int, 8001) }},
		change{"8001 parameters", func(s *api.Sig) { s.Fns[0].Params = make([]int, 8001) }},
		change{"8001 members", func(s *api.Sig) { s.Graph[0].L = upTo(8001) }},
	)
}

// tooMany are changes of the rich signature that make it none; more is announced than Parse takes.
func tooMany() []change {
	return []change{
		{"65 functions", func(s *api.Sig) { s.Fns = moreFns(s, 65) }},
		{"9000 functions", func(s *api.Sig) { s.Fns = moreFns(s, 9000) }},
		{"2001 nodes", func(s *api.Sig) { s.Graph = append(s.Graph, manyNodes(2001)[13:]...) }},
		{"9000 nodes", func(s *api.Sig) { s.Graph = append(s.Graph, manyNodes(9000)[13:]...) }},
		{"2001 nodes, all of them reached", func(s *api.Sig) { *s = wholeUnion(2000) }},
	}
}

// manyNodes are tags, no two of which are equal, in their order.
func manyNodes(n int) (g []api.GNode) {
	for i := range n {
		g = append(g, tag(fmt.Sprintf("t%04d", i)))
	}
	return g
}

// wholeUnion is a signature whose graph is one union of so many tags, in their order.
func wholeUnion(members int) api.Sig {
	return api.Sig{
		Module: "m",
		Names:  []string{"T"},
		Types:  []int{0},
		Graph:  append([]api.GNode{union(upTo(members + 1)[1:]...)}, manyNodes(members)...),
	}
}

func changed(c change) api.Sig {
	s := rich()
	c.do(&s)
	return s
}

func TestP15_2_Check(t *testing.T) {
	for _, s := range []api.Sig{nothing(), chapter(), rich(), wholeUnion(2), wholeUnion(1999)} {
		if e := sig.Check(s); e != api.OK {
			t.Errorf("%.500s: error %d", showAll(s), e)
		}
	}
	if e := sig.Check(api.Sig{}); e != api.ErrArg {
		t.Errorf("no signature: error %d", e)
	}
	for _, c := range slices.Concat(wrong(), negative(), tooMany()) {
		if e := sig.Check(changed(c)); e != api.ErrArg {
			t.Errorf("%.50s: error %d: %.500s", c.what, e, showAll(changed(c)))
		}
	}
}

// right are changes of the rich signature that make it another one.
func right() []change {
	return []change{
		{"the shortest names", func(s *api.Sig) { s.Module, s.Names[0], s.Fns[0].Name = "m", "L", "f" }},
		{"the longest names", func(s *api.Sig) {
			s.Module, s.Names[0], s.Fns[0].Name = "m23456789012345_", "T234567890123456", "f23456789012345_"
		}},
		{"names of the module", func(s *api.Sig) { s.Names[0], s.Fns[1].Name = "Rich", "rich" }},
		{"a type's name as a function's", func(s *api.Sig) { s.Names[0], s.Fns[1].Name = "Map", "list" }},
		{"64 types", func(s *api.Sig) { s.Names, s.Types = moreTypes(s, 64) }},
		{"64 functions", func(s *api.Sig) { s.Fns = moreFns(s, 64) }},
		{"16 bounds", func(s *api.Sig) { s.Fns[2].Bounds = append(s.Fns[2].Bounds, make([]int, 14)...) }},
		{"16 parameters", func(s *api.Sig) { s.Fns[2].Params = append(s.Fns[2].Params, make([]int, 15)...) }},
		{"a tag that is a keyword", func(s *api.Sig) { s.Graph[6].Name = "module" }},
		{"another tag", func(s *api.Sig) { s.Graph[6].Name = "t23456789012345_" }},
		{"the greatest variable", func(s *api.Sig) { s.Graph[11].Num = 15 }},
		{"another key", func(s *api.Sig) { s.Graph[12].Keys[0] = "b" }},
		{"another kind", func(s *api.Sig) { s.Graph[8] = tag("t") }},
	}
}

func TestP15_2_CheckOfOthers(t *testing.T) {
	for _, c := range right() {
		if e := sig.Check(changed(c)); e != api.OK {
			t.Errorf("%s: error %d: %.500s", c.what, e, showAll(changed(c)))
		}
	}
}

// apart are signatures no two of which are equal.
func apart() []api.Sig {
	l := []api.Sig{{}, nothing(), chapter(), rich()}
	for _, c := range slices.Concat(wrong(), negative(), right()) {
		l = append(l, changed(c))
	}
	return l
}

func TestP15_2_Same(t *testing.T) {
	l := apart()
	for i, s := range l {
		for k, u := range l {
			if got := sig.Same(s, u); got != (i == k) {
				t.Errorf("%d and %d: %t: %.500s and %.500s", i, k, got, showAll(s), showAll(u))
			}
		}
		if !sig.Same(s, sig.Copy(s)) {
			t.Errorf("%.500s is not its copy %.500s", showAll(s), showAll(sig.Copy(s)))
		}
	}
}

// Each field alone makes a difference.
func TestP15_2_SameByField(t *testing.T) {
	for _, c := range []change{
		{"module", func(s *api.Sig) { s.Module = "poor" }},
		{"name", func(s *api.Sig) { s.Names[1] = "T3" }},
		{"fewer names", func(s *api.Sig) { s.Names = s.Names[:1] }},
		{"type", func(s *api.Sig) { s.Types[1]++ }},
		{"more types", func(s *api.Sig) { s.Types = append(s.Types, 0) }},
		{"function", func(s *api.Sig) { s.Fns[0].Name = "mep" }},
		{"bound", func(s *api.Sig) { s.Fns[2].Bounds[1]++ }},
		{"more bounds", func(s *api.Sig) { s.Fns[1].Bounds = []int{0} }},
		{"parameter", func(s *api.Sig) { s.Fns[0].Params[1]-- }},
		{"fewer parameters", func(s *api.Sig) { s.Fns[2].Params = nil }},
		{"bounds for parameters", func(s *api.Sig) { s.Fns[2].Bounds, s.Fns[2].Params = []int{8}, []int{3, 9} }},
		{"result", func(s *api.Sig) { s.Fns[2].Ret++ }},
		{"fewer functions", func(s *api.Sig) { s.Fns = s.Fns[:2] }},
		{"more functions", func(s *api.Sig) { s.Fns = append(s.Fns, api.SigFn{}) }},
		{"kind", func(s *api.Sig) { s.Graph[3].Kind = api.TBool }},
		{"number", func(s *api.Sig) { s.Graph[3].Num = 1 }},
		{"name of a node", func(s *api.Sig) { s.Graph[3].Name = "a" }},
		{"key", func(s *api.Sig) { s.Graph[2].Keys[1] = "tm" }},
		{"child", func(s *api.Sig) { s.Graph[2].L[1]++ }},
		{"fewer nodes", func(s *api.Sig) { s.Graph = s.Graph[:12] }},
		{"more nodes", func(s *api.Sig) { s.Graph = append(s.Graph, api.GNode{}) }},
	} {
		s, u := rich(), changed(c)
		if sig.Same(s, u) || sig.Same(u, s) {
			t.Errorf("%s makes no difference", c.what)
		}
		if !sig.Same(u, changed(c)) {
			t.Errorf("%s: not the same", c.what)
		}
	}
}

// Nil and empty lists are the same.
func TestP15_2_NilAndEmpty(t *testing.T) {
	bare := api.Sig{Module: "m", Fns: []api.SigFn{{Name: "f"}}, Graph: []api.GNode{{Kind: api.TInt}}}
	full := api.Sig{Module: "m", Names: []string{}, Types: []int{}, Fns: []api.SigFn{{Name: "f", Bounds: []int{}, Params: []int{}}}, Graph: []api.GNode{{Kind: api.TInt, Keys: []string{}, L: []int{}}}}
	empty := api.Sig{Module: "m", Names: []string{}, Types: []int{}, Fns: []api.SigFn{}, Graph: []api.GNode{}}
	if !sig.Same(bare, full) || !sig.Same(full, bare) || !sig.Same(empty, nothing()) || !sig.Same(nothing(), empty) {
		t.Error("not the same")
	}
	if bytesOf(bare) != bytesOf(full) || bytesOf(empty) != bytesOf(nothing()) {
		t.Error("not the same bytes")
	}
	for _, s := range []api.Sig{bare, full, empty} {
		if sig.Check(s) != api.OK || !sig.Same(sig.Copy(s), s) {
			t.Errorf("%s: error %d, copy %s", showAll(s), sig.Check(s), showAll(sig.Copy(s)))
		}
	}
}

func TestP15_2_Copy(t *testing.T) {
	for _, s := range apart() {
		if got := showAll(sig.Copy(s)); got != showAll(s) {
			t.Errorf("%.500s, not %.500s", got, showAll(s))
		}
	}
}

func TestP15_2_FnAndType(t *testing.T) {
	s := rich()
	for name, want := range map[string][2]int{
		"map": {0, -1}, "f_2": {1, -1}, "g": {2, -1}, "List": {-1, 0}, "T2": {-1, 1},
		"": {-1, -1}, "rich": {-1, -1}, "ma": {-1, -1}, "map ": {-1, -1}, "MAP": {-1, -1}, "list": {-1, -1}, "T": {-1, -1}, "hd": {-1, -1}, "tag": {-1, -1},
	} {
		if got := [2]int{sig.Fn(s, name), sig.Type(s, name)}; got != want {
			t.Errorf("%q: %v, not %v", name, got, want)
		}
	}
	for _, s := range []api.Sig{{}, nothing()} {
		if sig.Fn(s, "") != -1 || sig.Type(s, "") != -1 || sig.Fn(s, "f") != -1 || sig.Type(s, "T") != -1 {
			t.Error("a signature without declarations has one")
		}
	}
	// Of a name that occurs twice, which no valid signature has, the first one counts.
	twice := api.Sig{Names: []string{"A", "B", "B"}, Fns: []api.SigFn{{}, {Name: "b"}, {Name: "a"}, {Name: "b"}}}
	if got := fmt.Sprint(sig.Type(twice, "B"), sig.Fn(twice, "b"), sig.Fn(twice, "a"), sig.Fn(twice, "")); got != "1 1 2 0" {
		t.Error(got)
	}
}

func TestP15_3_Bytes(t *testing.T) {
	for _, x := range []struct {
		s    api.Sig
		want string
	}{
		{nothing(), "01 6D 00 00 00 00"},
		{rich(), bytesOfRich},
		{api.Sig{Module: "a", Fns: []api.SigFn{fn("f", nil, nil, 0)}, Graph: []api.GNode{plain(api.TDyn)}}, "01 61 00 00 01 01 66 00 00 00 01 01 00 00 00 00"},
		{api.Sig{Module: "a", Names: []string{"T"}, Types: []int{0}, Graph: []api.GNode{tag("in")}}, "01 61 01 01 54 01 00 00 01 05 00 02 69 6E 00 00"},
	} {
		want := hex(t, x.want)
		if got := bytesOf(x.s); got != want {
			t.Errorf("% X, not % X", got, want)
		}
		if want != encoded(x.s) {
			t.Errorf("% X is not % X", want, encoded(x.s))
		}
		if got := parsed(want); got != showAll(x.s) {
			t.Errorf("%s, not %s", got, showAll(x.s))
		}
	}
}

func TestP15_3_BytesOfOthers(t *testing.T) {
	for _, c := range right() {
		s := changed(c)
		if got, want := bytesOf(s), encoded(s); got != want {
			t.Errorf("%s: %s, not %s", c.what, head(got), head(want))
		}
	}
	for _, c := range slices.Concat(wrong(), negative(), tooMany()) {
		if got := bytesOf(changed(c)); got != failed(api.ErrArg) {
			t.Errorf("%.50s: %.100q", c.what, got)
		}
	}
	if got := bytesOf(api.Sig{}); got != failed(api.ErrArg) {
		t.Errorf("no signature: %.100q", got)
	}
}
