package tree_test

import (
	"slices"
	"strconv"
	"strings"
	"testing"

	"armillary/api"
	"armillary/tree"
)

// mark stands in a text of the tests ahead of the token at which an error is; it is no part of the language.
const mark = "@"

// parsed reads a text that has no error.
func parsed(t *testing.T, s string) api.Module {
	t.Helper()
	m, at, e := tree.Parse(s)
	if at != 0 || e != api.OK {
		t.Fatalf("%s: error %d at %d", brief(s), e, at)
	}
	return m
}

// fails tells that a text has an error where its last mark is.
func fails(t *testing.T, s string, e api.Errno) {
	t.Helper()
	at := strings.LastIndex(s, mark)
	if at < 0 {
		t.Fatalf("%s: no mark", brief(s))
	}
	s = s[:at] + s[at+len(mark):]
	m, gotAt, gotE := tree.Parse(s)
	if gotAt != at || gotE != e {
		t.Errorf("%s: error %d at %d; want error %d at %d", brief(s), gotE, gotAt, e, at)
	}
	if !tree.Same(m, api.Module{}) {
		t.Errorf("%s: a module beside an error", brief(s))
	}
}

// brief is the last part of a text, where what matters is.
func brief(s string) string { return strconv.Quote(s[max(0, len(s)-120):]) }

var kindNames = [...]string{
	api.TDyn: "TDyn", api.TNull: "TNull", api.TBool: "TBool", api.TInt: "TInt", api.TTag: "TTag", api.TName: "TName", api.TRec: "TRec", api.TUnion: "TUnion",
	api.EInt: "EInt", api.ETag: "ETag", api.ETrue: "ETrue", api.EFalse: "EFalse", api.ENull: "ENull", api.EVar: "EVar", api.ERec: "ERec", api.EField: "EField",
	api.ECall: "ECall", api.EIf: "EIf", api.EIs: "EIs", api.ELet: "ELet", api.EOp: "EOp", api.EAs: "EAs",
}

// shown is a node in words: its kind, and those of its fields that are not zero, L last.
func shown(n api.Node) string {
	s := kindNames[n.Kind]
	if n.Mod != "" {
		s += " " + n.Mod + "::"
	}
	if n.Name != "" {
		s += " " + n.Name
	}
	if n.Num != 0 {
		s += " #" + strconv.Itoa(n.Num)
	}
	for i, k := range n.Keys {
		s += " " + k
		if i < len(n.L) {
			s += ":"
		}
	}
	for _, c := range n.L {
		s += " " + strconv.Itoa(c)
	}
	return s
}

func allShown(m api.Module) string {
	var l []string
	for _, n := range m.Nodes {
		l = append(l, shown(n))
	}
	return strings.Join(l, "; ")
}

func TestP3_1_Types(t *testing.T) {
	for _, x := range []struct{ s, want string }{
		{"dyn", "TDyn"}, {"null", "TNull"}, {"bool", "TBool"}, {"int", "TInt"},
		{"'a", "TTag a"}, {"'let", "TTag let"}, {"'null", "TTag null"},
		{"T", "TName T"}, {"b::T", "TName b:: T"},
		{"{}", "TRec"}, {"{b: int, a: T}", "TInt; TName T; TRec b: a: 0 1"},
		{"int | null", "TInt; TNull; TUnion 0 1"},
		{"null | {a: T}", "TNull; TName T; TRec a: 1; TUnion 0 2"},
		{"int | int | int", "TInt; TInt; TInt; TUnion 0 1 2"},
		{"(int)", "TInt"}, {"(((int)))", "TInt"}, {"(int | null)", "TInt; TNull; TUnion 0 1"},
		{"(int | null) | bool", "TInt; TNull; TUnion 0 1; TBool; TUnion 2 3"},
		{"int | (null | bool)", "TInt; TNull; TBool; TUnion 1 2; TUnion 0 3"},
		{"{a: int | null, b: {c: {}}}", "TInt; TNull; TUnion 0 1; TRec; TRec c: 3; TRec a: b: 2 4"},
	} {
		m := parsed(t, "module m type A = "+x.s)
		if s := allShown(m); s != x.want {
			t.Errorf("%s: %s; want %s", x.s, s, x.want)
		}
		if !slices.Equal(m.Types, []api.Decl{{Name: "A", Type: len(m.Nodes) - 1}}) {
			t.Errorf("%s: types %v", x.s, m.Types)
		}
	}
}

func TestP3_1_Exprs(t *testing.T) {
	for _, x := range []struct{ s, want string }{
		{"0", "EInt"}, {"7", "EInt #7"}, {"2147483647", "EInt #2147483647"},
		{"'a", "ETag a"}, {"'if", "ETag if"}, {"true", "ETrue"}, {"false", "EFalse"}, {"null", "ENull"}, {"x", "EVar x"},
		{"{}", "ERec"}, {"{b: 1, a: x}", "EInt #1; EVar x; ERec b: a: 1 2"},
		{"x.a", "EVar x; EField a 1"}, {"x.a.b", "EVar x; EField a 1; EField b 2"},
		{"{}.a", "ERec; EField a 1"}, {"f().a", "ECall f; EField a 1"}, {"1.a", "EInt #1; EField a 1"}, {"(x + y).a", "EVar x; EVar y; EOp + 1 2; EField a 3"},
		{"f()", "ECall f"}, {"b::f()", "ECall b:: f"}, {"f(x, 1)", "EVar x; EInt #1; ECall f 1 2"},
		{"f[int](x)", "TInt; EVar x; ECall f #1 1 2"}, {"b::f[int, T | null]()", "TInt; TName T; TNull; TUnion 2 3; ECall b:: f #2 1 4"},
		{"if x then 1 else 2", "EVar x; EInt #1; EInt #2; EIf 1 2 3"},
		{"if x then 1 else if y then 2 else 3", "EVar x; EInt #1; EVar y; EInt #2; EInt #3; EIf 3 4 5; EIf 1 2 6"},
		{"x is null", "EVar x; EIs null 1"}, {"x is bool", "EVar x; EIs bool 1"}, {"x is int", "EVar x; EIs int 1"}, {"x is rec", "EVar x; EIs rec 1"},
		{"x is 'a", "EVar x; EIs 'a 1"}, {"x is 'rec", "EVar x; EIs 'rec 1"}, {"x.a is int", "EVar x; EField a 1; EIs int 2"},
		{"(x) is int", "EVar x; EIs int 1"}, {"(((x)).a) is int", "EVar x; EField a 1; EIs int 2"},
		{"let y = 1 in y", "EInt #1; EVar y; ELet y 1 2"}, {"let y = x in y is int", "EVar x; EVar y; EIs int 2; ELet y 1 3"},
		{"let a = 1 in let a = 2 in a", "EInt #1; EInt #2; EVar a; ELet a 2 3; ELet a 1 4"},
		{"x + 1", "EVar x; EInt #1; EOp + 1 2"}, {"x < 1", "EVar x; EInt #1; EOp < 1 2"}, {"x == 1", "EVar x; EInt #1; EOp == 1 2"},
		{"a + b + c", "EVar a; EVar b; EOp + 1 2; EVar c; EOp + 3 4"}, {"a == b < c", "EVar a; EVar b; EOp == 1 2; EVar c; EOp < 3 4"},
		{"a + (b + c)", "EVar a; EVar b; EVar c; EOp + 2 3; EOp + 1 4"}, {"a + b.c + d", "EVar a; EVar b; EField c 2; EOp + 1 3; EVar d; EOp + 4 5"},
		{"(x as int)", "EVar x; TInt; EAs 1 2"}, {"((x as int) as T | null)", "EVar x; TInt; EAs 1 2; TName T; TNull; TUnion 4 5; EAs 3 6"},
		{"(let a = 1 in a) + (if b then c else d)", "EInt #1; EVar a; ELet a 1 2; EVar b; EVar c; EVar d; EIf 4 5 6; EOp + 3 7"},
		{"if x is int then x + 1 else 0", "EVar x; EIs int 1; EVar x; EInt #1; EOp + 3 4; EInt; EIf 2 5 6"},
	} {
		m := parsed(t, "module m fn f(): dyn = "+x.s)
		if s := allShown(m); s != "TDyn; "+x.want {
			t.Errorf("%s: %s; want %s", x.s, s, x.want)
		}
		if len(m.Fns) != 1 || m.Fns[0].Ret != 0 || m.Fns[0].Body != len(m.Nodes)-1 {
			t.Errorf("%s: functions %v", x.s, m.Fns)
		}
	}
}

func TestP3_1_Modules(t *testing.T) {
	for _, x := range []struct {
		s    string
		want api.Module
	}{
		{"module m", api.Module{Name: "m"}},
		{"# a comment\n module\nm # and one more", api.Module{Name: "m"}},
		{"module a import a import c import b", api.Module{Name: "a", Imports: []string{"a", "c", "b"}}},
		// Names of declarations are judged elsewhere (chapter 5), and each list of names by itself.
		{"module m type T = int type T = T fn f(): T = f() fn f(): T = f()", api.Module{
			Name: "m", Types: []api.Decl{{Name: "T"}, {Name: "T", Type: 1}},
			Fns:   []api.Fn{{Name: "f", Ret: 2, Body: 3}, {Name: "f", Ret: 4, Body: 5}},
			Nodes: []api.Node{{Kind: api.TInt}, {Kind: api.TName, Name: "T"}, {Kind: api.TName, Name: "T"}, {Kind: api.ECall, Name: "f"}, {Kind: api.TName, Name: "T"}, {Kind: api.ECall, Name: "f"}}}},
		{"module m import x fn x[A <: dyn, B <: A](x: A, y: B): {x: A} = {x: x}", api.Module{
			Name: "m", Imports: []string{"x"},
			Fns: []api.Fn{{Name: "x", Vars: []api.Var{{Name: "A"}, {Name: "B", Type: 1}}, Params: []api.Var{{Name: "x", Type: 2}, {Name: "y", Type: 3}}, Ret: 5, Body: 7}},
			Nodes: []api.Node{{Kind: api.TDyn}, {Kind: api.TName, Name: "A"}, {Kind: api.TName, Name: "A"}, {Kind: api.TName, Name: "B"}, {Kind: api.TName, Name: "A"},
				{Kind: api.TRec, Keys: []string{"x"}, L: []int{4}}, {Kind: api.EVar, Name: "x"}, {Kind: api.ERec, Keys: []string{"x"}, L: []int{6}}}}},
		{"module m fn f(x: int): int = x + 1 + 2", api.Module{
			Name: "m", Fns: []api.Fn{{Name: "f", Params: []api.Var{{Name: "x"}}, Ret: 1, Body: 6}},
			Nodes: []api.Node{{Kind: api.TInt}, {Kind: api.TInt}, {Kind: api.EVar, Name: "x"}, {Kind: api.EInt, Num: 1}, {Kind: api.EOp, Name: "+", L: []int{2, 3}},
				{Kind: api.EInt, Num: 2}, {Kind: api.EOp, Name: "+", L: []int{4, 5}}}}},
	} {
		if m := parsed(t, x.s); !tree.Same(m, x.want) {
			t.Errorf("%s: %+v; want %+v", x.s, m, x.want)
		}
	}
}

func TestP3_1_Words(t *testing.T) {
	fails(t, mark+strings.Repeat(" ", api.MaxText+1), api.ErrLimit)
	for _, s := range []string{"module m @01", "@'", "@$ module", "a b c @_", "module m fn f(): int = 1 is int @2147483648", "module m # \n @é"} {
		fails(t, s, api.ErrWord)
	}
}

func TestP3_1_Syntax(t *testing.T) {
	for _, x := range []struct{ ahead, l string }{
		{"", "@; module@; module @M; module @1; module @'m; module @module; @m; @'module m; @Module m; @fn f(): int = 1"},
		{"module m ", "@m; @{; @module n; import@; import @M; import @'a; import @type; import a @,; import a @b; import a @:: T; type T = int @import a; fn f(): int = 1 @import a"},
		{"module m ", "@T = int; type@; type @t = int; type T@; type T @int; type T @== int; type T @: int; type T @[A <: int] = int; fn f(): int = 1 @type T = int"},
		{"module m type T = ", "@; @true; @1; @rec; x@; @|; @,; @=; @fn f(): int = 1; int @,; int @int; int @+ int; int @as int; int |@; int | @| int; int | @1"},
		{"module m type T = ", "A @:: T; a@; a @T; a @. T; a::@; a::@t; a::@b::T; a::T @:: T; 'a @:: T; (@); (int@; (int | @); (int @as int); (int@}; int@)"},
		{"module m type T = ", "{@; {a@}; {a: @}; {a: int@; {a: int @b: int}; {a: int, @}; {@, a: int}; {@A: int}; {@'a: int}; {@1: int}; {@type: int}; {a @= int}; {a @:: int}; {a: int@)"},
		{"module m fn ", "@; @F(): int = 1; f@; f @: int = 1; f @= 1; f[@]; f[@a <: int]; f[A@]; f[A @< int]; f[A @: int]; f[A <: @]; f[A <: int @); f[A <: int, @]; f[A <: int] @: int; f[A <: int]@[B <: int]"},
		{"module m fn f(", "@; @,): int = 1; x@; x@); x: @); x @= 1; x @:: Y; x: int @y: int); x: int, @); @X: int; @'x: int; x: int@]; )@; ) @= 1; ): @= 1; ): int@; ): int @:= 1; ): int @== 1; ): int @fn"},
		{"module m fn f(): int = ", "@; @in; @is int; @T; @dyn; @int; @rec; @module; @:; @=; 1 @2; 1 @= 2; x @y; 1 @'a; 1 @| 2; 1 @: int; 1 @, 2; 1 @<: 2; 1 @as int; 1 @then; 1 @]; 1 @}; 1 @)"},
		{"module m fn f(): int = ", "@+ 1; 1 +@; 1 + @+ 1; 1 < @); 1 == @= 1; 1 + @let x = 1 in x; 1 < @if x then 1 else 2; 1 + 2 @is int; 1 + @fn; 1 + # x@"},
		{"module m fn f(): int = ", "(@); (1@; (let@); (1@]; (1 as @); (1 as int@; (1 as int @as int); (1 as @1); (1 as int @+ 1); (1 @is int)"},
		{"module m fn f(): int = ", "x.@; x.@1; x.@X; x.@let; x.@'a; x.@(a); x.@.a; x.a @x; @.a"},
		{"module m fn f(): int = ", "b::@; b::@T; b::@1; b::@(); b::x@; b::x @+ 1; b::x @.a; b::x @is int; b::x@::y(); 1@::f(); f()@::f(); b::f()@(); b::f @f()"},
		{"module m fn f(): int = ", "f(@; f(@,); f(1@; f(1, @); f(1 @2); f(a @: 1); f(1@]; f[@](1); f[int@; f[int@(; f[int]@; f[int] @+ 1; f[int, @](); f[@1](); f()@(); f()@[int](); x.a@(); (x)@(1); 1@(2); x.a@[int]()"},
		{"module m fn f(): int = ", "{@; {a@}; {a: @}; {a: 1, @}; {a: 1@; {a @= 1}; {a @:: 1}; {@1: 1}; {@A: 1}; {a: 1@)"},
		{"module m fn f(): int = ", "let@; let @X = 1 in 2; let @let; let x @: 1; let x @== 1; let x = @in 2; let x = 1@; let x = 1 @then 2; let x = 1 in@; let x = 1 in @in"},
		{"module m fn f(): int = ", "if@; if @then 1 else 2; if x@; if x @in 1; if x then@; if x then 1@; if x then 1 @fn g(): int = 1; if x then 1 @then 2; if x then 1 else@; if x then 1 else 2 @else 3"},
		{"module m fn f(): int = ", "x is@; x is @dyn; x is @T; x is @true; x is @{}; x is @a; x is @1; x is @(int); x is int @is int; x is int @+ 1; x is int@.a; x is int @| null; x @rec"},
	} {
		for s := range strings.SplitSeq(x.l, "; ") {
			fails(t, x.ahead+s, api.ErrSyntax)
		}
	}
}

// The operand of is must be a variable, or a field of one.
func TestP3_1_Operands(t *testing.T) {
	for _, s := range []string{
		"1 @is int", "'a @is int", "true @is bool", "null @is null", "{} @is rec", "f() @is int", "b::f(x) @is int", "x.a.b @is int", "f().a @is int", "{a: 1}.a @is int", "1.a @is int",
		"x + y @is int", "x == y.a @is int", "(x is int) @is bool", "(x as int) @is int", "(if x then y else z) @is int", "(let x = 1 in x) @is int", "(x as int).a @is int", "(x.a).b @is int",
		"let x = 1 @is int in x", "if 1 @is int then 1 else 2", "f(x, 1 @is int)", "{a: 1 @is int}", "1 @is =", "1 @is",
	} {
		fails(t, "module m fn f(): int = "+s, api.ErrSyntax)
	}
}

// A name that occurs a second time in one list.
func TestP3_1_Twice(t *testing.T) {
	for _, s := range []string{
		"module m import a import @a", "module m import a import b import @a", "module m import a import @a b",
		"module m type T = {a: int, @a: null}", "module m type T = {a: int, b: int, @a =", "module m type T = {a: {b: int, @b: int}}",
		"module m fn f[A <: int, @A <: int](): int = 1", "module m fn f[A <: int, B <: int, @B", "module m fn f(x: int, @x: int): int = 1", "module m fn f(x: int, y: int, z: int, @y: int): int = 1",
		"module m fn f(): int = {a: 1, @a: 2}", "module m fn f(): int = {a: {a: 1}, b: {a: 1, @a: 1}}",
	} {
		fails(t, s, api.ErrSyntax)
	}
	for _, s := range []string{
		"module m import m import n", "module m type T = {a: {a: int}, b: {a: int}}", "module m fn f[A <: int, B <: int](a: int, b: int): int = 1 fn f[A <: int](a: int): int = 1",
		"module m fn f(x: int): {x: int} = {x: {x: x}, y: x}", "module m fn f(): int = let x = 1 in let x = 2 in x", "module m fn f(): int = f[int, int](1, 1)", "module m type T = int | int",
	} {
		parsed(t, s)
	}
}
