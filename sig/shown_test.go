package sig_test

import (
	"strings"
	"testing"

	"armillary/sig"
)

const (
	firstText = `module m import b
type List = null | {hd: int, tl: List}
type Pair = {a: List, b: b::Tree, c: b::Leaf}
type Other = bool
fn map[A <: List, B <: Pair](x: A, y: B | null, z: 'tag): {one: A, two: B} = {one: x, two: y}
fn sum(l: List, p: Pair): int = if l is null then 0 else l.hd + sum(l.tl, p)
`
	otherText = `module b
type Leaf = {v: int, w: Leaf | null}
type Tree = Leaf | {l: Tree, r: Tree}
type Wood = {r: Wood, l: Tree} | {w: null | Leaf, v: int}
fn f(t: Tree): Tree = t
`
)

// An edit replaces something of the two texts.
type edit struct{ what, from, to string }

func (x edit) of(t *testing.T) []string {
	t.Helper()
	var l []string
	found := false
	for _, s := range []string{firstText, otherText} {
		found = found || strings.Contains(s, x.from)
		l = append(l, strings.ReplaceAll(s, x.from, x.to))
	}
	if !found {
		t.Errorf("%s: there is no %q", x.what, x.from)
	}
	return l
}

func TestP15_6_NotShown(t *testing.T) {
	want := of(t, firstText, otherText)
	for _, x := range []edit{
		{"body", "= if l is null then 0 else l.hd + sum(l.tl, p)", "= 1"},
		{"body of another type", "= {one: x, two: y}", "= 'nothing"},
		{"body with types", "= {one: x, two: y}", "= ((1 as {new: 'new}) as A | 'newer)"},
		{"body with a call", "= {one: x, two: y}", "= map[{new: b::Tree}, 'new](x, y, b::f(null))"},
		{"body of another module", "Tree = t\n", "Tree = (1 as {new: 'new})\n"},
		{"name of a parameter", "x: A", "parameter: A"},
		{"names of parameters", "(l: List, p: Pair)", "(p: List, l: Pair)"},
		{"name of a parameter of another module", "f(t: Tree)", "f(u: Tree)"},
		{"name of a type parameter", "map[A <: List, B <: Pair](x: A, y: B | null, z: 'tag): {one: A, two: B}", "map[New <: List, Pairs <: Pair](x: New, y: Pairs | null, z: 'tag): {one: New, two: Pairs}"},
		{"names of type parameters", "map[A <: List, B <: Pair](x: A, y: B | null, z: 'tag): {one: A, two: B}", "map[B <: List, A <: Pair](x: B, y: A | null, z: 'tag): {one: B, two: A}"},
		{"order of keys", "{hd: int, tl: List}", "{tl: List, hd: int}"},
		{"order of three keys", "{a: List, b: b::Tree, c: b::Leaf}", "{c: b::Leaf, a: List, b: b::Tree}"},
		{"order of keys of a result", "{one: A, two: B}", "{two: B, one: A}"},
		{"order of keys of another module", "{v: int, w: Leaf | null}", "{w: Leaf | null, v: int}"},
		{"name of a type of another module", "Tree", "Bush"},
		{"two names of types of another module", "Leaf", "A"},
		{"name by its type", "l: List", "l: null | {hd: int, tl: List}"},
		{"name in its type by it", "tl: List", "tl: null | {hd: int, tl: List}"},
		{"all names in a type", "{a: List, b: b::Tree, c: b::Leaf}", "{a: null | {hd: int, tl: List}, b: b::Leaf | {l: b::Tree, r: b::Tree}, c: {v: int, w: b::Leaf | null}}"},
		{"name of another module by its type", "c: b::Leaf", "c: {v: int, w: b::Leaf | null}"},
		{"name of another module by another one of the type", "b::Tree", "b::Wood"},
		{"bound by its type", "B <: Pair", "B <: {a: List, b: b::Tree, c: b::Leaf}"},
		// and what else is the same type
		{"order of a union", "null | {hd: int, tl: List}", "{hd: int, tl: List} | null"},
		{"members twice", "B | null", "B | null | (null | B)"},
		{"order of a union with a type parameter", "B | null", "null | B"},
		{"order of a union of another module", "Leaf | {l: Tree, r: Tree}", "{l: Tree, r: Tree} | Leaf"},
		{"another type of another module", "type Leaf", "type New = 'new type Leaf"},
		{"another function of another module", "fn f(", "fn g(): 'new = 1 fn f("},
		{"order of another module's types", "type Leaf = {v: int, w: Leaf | null}\ntype Tree = Leaf | {l: Tree, r: Tree}", "type Tree = Leaf | {l: Tree, r: Tree} type Leaf = {v: int, w: Leaf | null}"},
		{"an import of another module", "module b", "module b import c"},
		{"an import", "import b", "import c import b"},
		{"blanks and comments", "\n", "  # no more\n\n"},
		{"parentheses", "null | {hd: int, tl: List}", "((null) | ({hd: (int), tl: List}))"},
	} {
		got := of(t, append(x.of(t), "module c type T = 'c")...)
		if !sig.Same(got, want) || bytesOf(got) != bytesOf(want) {
			t.Errorf("%s: %s, not %s", x.what, showAll(got), showAll(want))
		}
	}
}

// What is shown makes another signature.
func TestP15_6_Shown(t *testing.T) {
	const header = "map[A <: List, B <: Pair](x: A, y: B | null, z: 'tag): {one: A, two: B}"
	want := of(t, firstText, otherText)
	for _, x := range []edit{
		{"name of a type", "List", "Lists"},
		{"order of types", "type List = null | {hd: int, tl: List}\ntype Pair = {a: List, b: b::Tree, c: b::Leaf}", "type Pair = {a: List, b: b::Tree, c: b::Leaf} type List = null | {hd: int, tl: List}"},
		{"another type more", "type List", "type New = int type List"},
		{"a type fewer", "type Other = bool\n", ""},
		{"a type by its kind", "type Other = bool", "type Other = null"},
		{"name of a function", "sum(", "sums("},
		{"another function more", "fn sum", "fn new(): int = 1 fn sum"},
		{"bounds", header, strings.Replace(header, "A <: List", "A <: int", 1)},
		{"bound by the same with dyn", header, strings.Replace(header, "A <: List", "A <: List | dyn", 1)},
		{"order of type parameters", header, strings.Replace(header, "A <: List, B <: Pair", "B <: Pair, A <: List", 1)},
		{"another type parameter", header, strings.Replace(header, "[A", "[C <: int, A", 1)},
		{"another type parameter behind", header, strings.Replace(header, "Pair]", "Pair, C <: int]", 1)},
		{"a type parameter for another one", header, strings.Replace(header, "x: A", "x: B", 1)},
		{"a type parameter for its bound", header, strings.Replace(header, "x: A", "x: List", 1)},
		{"order of parameters", header, strings.Replace(header, "x: A, y: B | null", "x: B | null, y: A", 1)},
		{"another parameter", "(l: List, p: Pair)", "(l: List, p: Pair, q: int)"},
		{"type of a parameter", "z: 'tag", "z: 'tags"},
		{"result", "): int", "): bool"},
		{"key", "hd", "head"},
		{"key of another module", "v: int", "u: int"},
		{"type in another module", "v: int", "v: bool"},
		{"a member more in another module", "Leaf | null", "Leaf | null | 'new"},
		{"a member more", "B | null", "B | null | 'new"},
		{"a key more", "{hd: int, tl: List}", "{hd: int, tl: List, hm: int}"},
		{"no circle", "tl: List", "tl: null"},
	} {
		got := of(t, x.of(t)...)
		if sig.Same(got, want) || bytesOf(got) == bytesOf(want) {
			t.Errorf("%s: %s", x.what, showAll(got))
		}
	}
}
