package tree_test

import (
	"strconv"
	"strings"
	"testing"

	"armillary/api"
	"armillary/tree"
)

const (
	aType = "module m type T = "
	aBody = "module m fn f(): int = "
)

// nested is a text that opens a way of nesting some times around what is inside.
func nested(open, close string, times int, inside string) string {
	return strings.Repeat(open, times) + inside + strings.Repeat(close, times)
}

// The ways in which types and expressions contain others, each one of which is one deeper.
var typeWays = [][2]string{{"(", ")"}, {"{a: ", "}"}, {"int | (", ")"}, {"{a: int, b: ", "}"}, {"{a: {}, b: ", ", c: {}} | null"}}
var exprWays = [][2]string{
	{"(", ")"}, {"{a: ", "}"}, {"f(", ")"}, {"f(1, ", ", 2)"}, {"f[int](", ")"}, {"b::f(", ")"}, {"(", ").a"}, {"1 + (", ")"}, {"(", ") + 1"}, {"(", " as int)"},
	{"let a = ", " in 1"}, {"let a = 1 in ", ""}, {"if ", " then 1 else 1"}, {"if 1 then ", " else 1"}, {"if 1 then 1 else ", ""},
}

func TestP3_1_DeepTypes(t *testing.T) {
	const most = api.MaxDepth - 1 // times around what has the greatest depth, as the outermost one has depth 1
	for _, d := range [][2]string{
		{aType, ""}, {"module m fn f[A <: ", "](): int = 1"}, {"module m fn f[A <: int, B <: ", "](): int = 1"}, {"module m fn f(x: ", "): int = 1"}, {"module m fn f(): ", " = 1"},
	} {
		for _, w := range typeWays {
			parsed(t, d[0]+nested(w[0], w[1], most, "int")+d[1])
			parsed(t, d[0]+nested(w[0], w[1], most, "'a | {} | b::T")+d[1])
			for _, s := range []string{"int", "A", "'a", "b::T", "{}", "(int)", "|", "=", "1", ")", "fn"} {
				fails(t, d[0]+nested(w[0], w[1], most, "("+mark+s+")")+d[1], api.ErrDeep)
			}
		}
		for _, s := range []string{"(@int)", "(@)", "{a: @int}", "{a: @}", "int | (@int)", "int | {a: @int}"} {
			fails(t, d[0]+nested("(", ")", most, s)+d[1], api.ErrDeep)
		}
		fails(t, d[0]+nested("(", ")", most, "{@="), api.ErrSyntax)
		fails(t, d[0]+nested("(", ")", most, "{a@}"), api.ErrSyntax)
	}
	for _, d := range [][2]string{{"(1 as ", ")"}, {"f[", "](1)"}, {"f[int, ", ", int](1)"}} {
		for _, w := range typeWays {
			parsed(t, aBody+d[0]+nested(w[0], w[1], most-1, "int")+d[1])
			fails(t, aBody+d[0]+nested(w[0], w[1], most-1, "(@int)")+d[1], api.ErrDeep)
		}
	}
	fails(t, aType+strings.Repeat("{a: ", api.MaxDepth)+mark, api.ErrDeep)
}

func TestP3_1_DeepExprs(t *testing.T) {
	const most = api.MaxDepth - 1
	for _, w := range exprWays {
		parsed(t, aBody+nested(w[0], w[1], most, "1"))
		for _, s := range []string{"1", "x", "'a", "{}", "b::f()", "if", "let", "=", "in", "is int", "int"} {
			fails(t, aBody+nested(w[0], w[1], most, "("+mark+s+")"), api.ErrDeep)
		}
	}
	for _, s := range []string{"f()", "b::f()", "{}", "x.a.a.a + 1 + y.b + 1 < z == {}", "x.a is 'a", "x is int"} {
		parsed(t, aBody+nested("(", ")", most, s))
	}
	for _, s := range []string{"(@1)", "(@)", "f(@1)", "f(@,)", "b::f(@1)", "{a: @1}", "{a: @}", "1 + (@1)", "let a = @1 in 1", "let a = @in", "if @x then", "if @then", "f[@int](1)", "f[@]()", "b::f[@int](1)"} {
		fails(t, aBody+nested("(", ")", most, s), api.ErrDeep)
	}
	for _, s := range []string{"{@=}", "{a@}", "f @f", "x is @{", "f@]"} {
		fails(t, aBody+nested("(", ")", most, s), api.ErrSyntax)
	}
	for _, s := range []string{"let a = 1 in @1", "if 1 then @1", "if 1 then 1 else @1", "(1 as @int)", "f(1, @2)", "f[int](@1)"} {
		s = strings.ReplaceAll(s, mark, "("+mark) // the others there are one less deep
		fails(t, aBody+nested("(", ")", most-1, s), api.ErrDeep)
	}
	fails(t, aBody+strings.Repeat("(", api.MaxDepth)+mark, api.ErrDeep)
}

// What lies beside something deep is not deeper for it.
func TestP3_1_DeepBeside(t *testing.T) {
	deepType := nested("(", ")", api.MaxDepth-2, "int")
	parsed(t, aType+"{a: "+deepType+", b: "+deepType+"} | ("+deepType+") type U = ("+deepType+")")
	deep := nested("(", ")", api.MaxDepth-2, "1")
	parsed(t, aBody+"f["+deepType+", "+deepType+"]("+deep+", "+deep+") + {a: "+deep+", b: "+deep+"}.a fn g(): ("+deepType+") = if "+deep+" then "+deep+" else "+deep)
	fails(t, aBody+"f("+deep+", ("+nested("(", ")", api.MaxDepth-2, "@1")+"))", api.ErrDeep)
}

// items are numbered ones, with commas between them: each # stands for its number.
func items(n int, item, sign string) string {
	var l []string
	for i := range n {
		l = append(l, strings.ReplaceAll(item, "#", strconv.Itoa(i)))
	}
	return strings.Join(l, sign)
}

func TestP3_1_Parts(t *testing.T) {
	for _, x := range []struct{ open, item, sign, close string }{
		{"module m fn f[", "A# <: int", ", ", "](): int = 1"},
		{"module m fn f(", "a#: int", ", ", "): int = 1"},
		{"module m type T = {", "a#: int", ", ", "}"},
		{"module m fn f(): int = {", "a#: 1", ", ", "}"},
		{"module m type T = ", "'a#", " | ", ""},
		{"module m type T = {a: (", "T#", " | ", ")} | int"},
		{"module m fn f(): ", "{}", " | ", " = 1"},
		{"module m fn f(): int = f[", "int", ", ", "](1)"},
		{"module m fn f(): int = b::f[", "T#", ", ", "](1)"},
		{"module m fn f(): int = f(", "#", ", ", ")"},
		{"module m fn f(): int = f[int](", "a#", ", ", ")"},
	} {
		full := x.open + items(api.MaxParts, x.item, x.sign)
		parsed(t, full+x.close)
		fails(t, full+x.sign+mark+strings.ReplaceAll(x.item, "#", "16")+x.close, api.ErrLimit)
		// Whatever stands there, among it a name for the second time.
		for _, s := range []string{"", ")", "=", "a0: int", "A0 <: int", "1", "int", "'a", "let", "fn", strings.TrimSpace(x.sign)} {
			fails(t, full+x.sign+mark+s, api.ErrLimit)
		}
		fails(t, full+" @in", api.ErrSyntax)
	}
	parsed(t, aBody+"f["+items(api.MaxParts, "int", ", ")+"]("+items(api.MaxParts, "#", ", ")+")")
	parsed(t, aBody+items(api.MaxParts+1, "#", " + "))
}

func TestP3_1_Imports(t *testing.T) {
	full := "module m " + items(api.MaxParts, "import a#", " ")
	if m := parsed(t, full); len(m.Imports) != api.MaxParts {
		t.Errorf("imports: %v", m.Imports)
	}
	for _, s := range []string{"a16", "a0", "", "A", "1", "import", "type T = int"} {
		fails(t, full+" import "+mark+s, api.ErrLimit)
	}
	fails(t, full+" @a", api.ErrSyntax)
}

func TestP3_1_Decls(t *testing.T) {
	types := "module m " + items(api.MaxDecls, "type T# = int", " ")
	fns := items(api.MaxDecls, "fn f#(): int = 1", " ")
	if m := parsed(t, types+" "+fns); len(m.Types) != api.MaxDecls || len(m.Fns) != api.MaxDecls {
		t.Errorf("%d types, %d functions", len(m.Types), len(m.Fns))
	}
	for _, s := range []string{"", " T = int", " t", " ="} {
		fails(t, types+" @type"+s, api.ErrLimit)
	}
	for _, s := range []string{"", " g(): int = 1", " G", " ="} {
		fails(t, "module m "+fns+" @fn"+s, api.ErrLimit)
		fails(t, types+" "+fns+" @fn"+s, api.ErrLimit)
	}
	// Behind a function no type may stand, however many there are.
	fails(t, types+" "+fns+" @type T = int", api.ErrSyntax)
	fails(t, types+" @import a", api.ErrSyntax)
	fails(t, types+" fn@", api.ErrSyntax)
}

// withNodes is a module with so many nodes.
func withNodes(t *testing.T, n int) string {
	t.Helper()
	s := "module m fn a(): int = x" + strings.Repeat(".a", n%2) + strings.Repeat("+1", (n-n%2)/2-1)
	if m := parsed(t, s); len(m.Nodes) != n {
		t.Fatalf("%d nodes, not %d", len(m.Nodes), n)
	}
	return s
}

func TestP3_1_Nodes(t *testing.T) {
	for _, x := range []struct {
		n int    // so many nodes have ended when a node ends at the mark, this one included
		l string // what follows fn z():
	}{
		{1, "@int = 1; @dyn = 1; @T = 1; @'a = 1; b::@T = 1; {@} = 1; (@int) = 1; {a: @int} = 1; @int | int = 1; @int )"},
		{2, "{a: int@} = 1; ({a: int@}) = 1; {a: int, b: @int} = 1; int | @int = 1; int | (@int) = 1; int | @int | int = 1; int | @int; {} | b::@T"},
		{3, "int | @int = 1; int | (int@) = 1; {a: int | @int} = 1; int | int | @int = 1; int | @int =; {a: int, b: int@} = 1"},
		{4, "int | int | @int = 1; {a: int | int@} = 1; int | (int | @int) = 1; int | int | {@}"},
		{5, "int | (int | int@) = 1; (int | int) | @int = 1"},
		{2, "int = @1; int = @'a; int = @true; int = @false; int = @null; int = @x; int = (@x); int = ((@x)); int = {@}; int = f(@); int = b::f(@); int = f(@x); int = f[@int](); int = {a: @1}"},
		{2, "int = @x + 1; int = @x.a; int = @x is int; int = (@x as int); int = if @x then 1 else 1; int = let a = @1 in 1; int = f(f(@)); int = @x 5; int = @x T; int = @1 is int; int = @x is"},
		{3, "int = x.@a; int = (x).@a; int = x.@a.b; int = {a: 1@}; int = f(x@); int = f[int](@); int = f(f()@); int = b::f(1@); int = x is @int; int = (x) is @'a; int = x is @rec is; int = x + @1; int = x == f(@)"},
		{3, "int = (x as @int); int = if x then @y else z; int = let a = 1 in @a; int = f(x, @y); int = f[int, @int](); int = f[int](@x)"},
		{4, "int = x + @1; int = x < (1@); int = x + @1 + 2; int = x.a.@b; int = x.a is @int; int = (x as int@); int = let a = 1 in @a; int = let a = 1 in (a@); int = if x then y else @z; int = f(x, y@); int = x == @y"},
		{5, "int = if x then y else @z; int = if x then y else (z@); int = x + x.@a; int = 1 + 2 + @3; int = f[int, int](x@)"},
	} {
		for s := range strings.SplitSeq(x.l, "; ") {
			endsAt(t, s, x.n)
		}
	}
}

// endsAt tells that at the mark of what a function has behind its parameters the nth node ends.
func endsAt(t *testing.T, s string, n int) {
	t.Helper()
	const fn = " fn z(): "
	fails(t, withNodes(t, api.MaxNodes+1-n)+fn+s, api.ErrLimit)
	// The whole of it fits, if it is a module at all, where there is just room for it.
	s = strings.ReplaceAll(s, mark, "")
	if m, _, e := tree.Parse("module m" + fn + s); e == api.OK {
		parsed(t, withNodes(t, api.MaxNodes-len(m.Nodes))+fn+s)
	}
}

func TestP3_1_MostNodes(t *testing.T) {
	s := withNodes(t, api.MaxNodes)
	parsed(t, s+" # no more")
	fails(t, s+" fn z(@=", api.ErrSyntax)
	fails(t, s+" fn z(): @int", api.ErrLimit)
}

// Where a node has not ended yet, what cannot follow is found first.
func TestP3_1_NodesGoOn(t *testing.T) {
	for _, x := range []struct {
		n int // all that have ended
		s string
	}{
		{1, "int | @="}, {2, "int | int | @="}, {1, "{a: int @="}, {1, "b::@t"},
		{1, "int = x(@="}, {1, "int = x::@1"}, {1, "int = x::y@"}, {1, "int = f[@="}, {1, "int = {a@}"}, {2, "int = x.@1"}, {2, "int = x +@"}, {2, "int = (x@"}, {2, "int = x is @dyn"},
		{2, "int = 1 @is int"}, {3, "int = x + 1.@="}, {4, "int = if x then y else 1 @is int"}, {3, "int = (x as int@"}, {2, "int = f(x @2)"},
	} {
		fails(t, withNodes(t, api.MaxNodes-x.n)+" fn z(): "+x.s, api.ErrSyntax)
	}
}

// At one token, of the two errors the one that P3.1 names first.
func TestP3_1_DeepAndNodes(t *testing.T) {
	s := withNodes(t, api.MaxNodes-1) + " fn z(): int = "
	fails(t, s+nested("(", ")", api.MaxDepth-1, "@x"), api.ErrLimit)
	fails(t, s+nested("(", ")", api.MaxDepth, "@x"), api.ErrDeep)
}
