package print_test

import (
	"math"
	"math/rand"
	"slices"
	"strings"
	"testing"

	"armillary/api"
	"armillary/print"
	"armillary/tree"
)

// refused tells that a module is not valid, whatever is asked of it.
func refused(t *testing.T, what string, m api.Module) {
	t.Helper()
	if e := print.Check(m); e != api.ErrArg {
		t.Errorf("%s: error %d", what, e)
	}
	if s, e := print.Module(m); s != "" || e != api.ErrArg {
		t.Errorf("%s: the text %s, error %d", what, brief(s), e)
	}
	for _, n := range []int{-1, 0, math.MaxInt, math.MinInt} {
		if s, e := print.Node(m, n); s != "" || e != api.ErrArg {
			t.Errorf("%s: the node %d is %s, error %d", what, n, brief(s), e)
		}
		if s, e := print.Line(m, n); s != "" || e != api.ErrArg {
			t.Errorf("%s: the function %d is %s, error %d", what, n, brief(s), e)
		}
	}
}

// An edit makes something of a module that is valid.
type edit struct {
	what string
	on   string
	do   func(m *api.Module)
}

// node is an edit of the node n, of a module of one function with a body.
func node(what, body string, n int, do func(x *api.Node)) edit {
	return edit{what + " of " + body, inBody(body), func(m *api.Module) { do(&m.Nodes[n]) }}
}

func kind(k int) func(x *api.Node)       { return func(x *api.Node) { x.Kind = k } }
func num(n int) func(x *api.Node)        { return func(x *api.Node) { x.Num = n } }
func called(s string) func(x *api.Node)  { return func(x *api.Node) { x.Name = s } }
func inMod(s string) func(x *api.Node)   { return func(x *api.Node) { x.Mod = s } }
func keys(l ...string) func(x *api.Node) { return func(x *api.Node) { x.Keys = l } }
func of(l ...int) func(x *api.Node)      { return func(x *api.Node) { x.L = l } }

// In inBody the nodes 0 and 1 are those of T and int; the body's come behind.
var nodeEdits = []edit{
	node("a kind 0", "1", 2, kind(0)), node("a kind -1", "1", 2, kind(-1)), node("a TVar instead", "1", 0, kind(api.TVar)), node("a kind 10", "1", 2, kind(10)), node("a kind 25", "1", 2, kind(25)), node("a great kind", "1", 2, kind(math.MaxInt)), node("a small kind", "1", 2, kind(math.MinInt)),
	node("a type instead", "1", 2, kind(api.TInt)), node("an expression instead", "1", 1, kind(api.ENull)), node("a type null", "null", 2, kind(api.TNull)), node("an expression null", "f[null]()", 2, kind(api.ENull)),
	node("a tag as a type", "'a", 2, kind(api.TTag)), node("a record as a type", "{}", 2, kind(api.TRec)), node("a tag as an expression", "f['a]()", 2, kind(api.ETag)), node("a record as an expression", "(x as {})", 3, kind(api.ERec)),
	node("a number below 0", "1", 2, num(-1)), node("a number too great", "1", 2, num(api.MaxInt+1)), node("the greatest number", "1", 2, num(math.MaxInt)), node("the smallest number", "1", 2, num(math.MinInt)),
	node("a number", "x", 2, num(1)), node("a name", "1", 2, called("x")), node("a module", "1", 2, inMod("b")), node("keys", "1", 2, keys("a")), node("children", "x + 1", 2, of(1)), node("no children", "x + 1", 4, of()),
	node("a module of a variable", "x", 2, inMod("b")), node("a module of a tag", "'a", 2, inMod("b")), node("a module of a record", "{}", 2, inMod("b")), node("a name of a keyword", "true", 2, called("true")),
	node("no name", "x", 2, called("")), node("a keyword", "x", 2, called("let")), node("a constant", "x", 2, called("true")), node("a type's name", "x", 2, called("X")), node("a number's digits", "x", 2, called("1")), node("a long name", "x", 2, called("long_name_of_17_b")),
	node("a name with a blank", "x", 2, called("x ")), node("a name with a comment", "x", 2, called("x# why")), node("a name with a line", "x", 2, called("x\nfn g(): int = x")), node("an expression as a name", "x", 2, called("x.a")), node("a call as a name", "x", 2, called("f()")), node("an enclosed name", "x", 2, called("(x)")),
	node("no tag", "'a", 2, called("")), node("a mark twice", "'a", 2, called("'a")), node("a great tag", "'a", 2, called("A")), node("a tag of 17 bytes", "'a", 2, called("long_name_of_17_b")),
	node("no shape", "x is int", 3, called("")), node("a shape that is none", "x is int", 3, called("dyn")), node("a tag without its mark", "x is 'a", 3, called("a")), node("a shape of two", "x is int", 3, called("int ")), node("a mark alone", "x is 'a", 3, called("'")),
	node("no sign", "x + 1", 4, called("")), node("a sign that is none", "x + 1", 4, called("<:")), node("a field's sign", "x + 1", 4, called(".")), node("blanks", "x + 1", 4, called(" +")), node("more than a sign", "x + 1", 4, called("+ 1 +")),
	node("no field", "x.a", 3, called("")), node("two fields", "x.a", 3, called("a.b")), node("no types", "f[int]()", 3, num(0)), node("types below 0", "f(x)", 3, num(-1)), node("types instead", "f(x)", 3, num(1)), node("more types", "f[int](x)", 4, num(2)), node("too many types", "f[int](x)", 4, num(3)), node("types without end", "f[int](x)", 4, num(math.MaxInt)), node("the fewest types", "f[int](x)", 4, num(math.MinInt)),
	node("a type too few", "f[int, int](x)", 5, num(1)), node("a module that is none", "f()", 2, inMod("B")), node("a type's module that is none", "f[b::T]()", 2, inMod("b::b")), node("a type without a name", "f[T]()", 2, called("")), node("a small type", "f[T]()", 2, called("t")),
	node("a child too few", "x + 1", 4, of(2)), node("a child too many", "x + 1", 4, of(2, 3, 1)), node("a child twice", "x + 1", 4, of(2, 2)), node("children turned round", "x + 1", 4, of(3, 2)), node("itself", "x + 1", 4, of(2, 4)), node("a later child", "x.a.b", 3, of(4)),
	node("a child below 0", "x + 1", 4, of(2, -1)), node("a child that there is not", "x + 1", 4, of(2, 5)), node("a great child", "x + 1", 4, of(math.MaxInt, 3)), node("a small child", "x + 1", 4, of(math.MinInt, 3)), node("a declaration's", "x.a", 3, of(0)), node("another one", "x.a + 1", 5, of(2, 4)),
	node("two of three", "if x then y else z", 5, of(2, 3)), node("one of two", "let x = 1 in y", 4, of(2)), node("no type", "(x as int)", 4, of(2)), node("none of one", "x.a", 3, of()), node("none tested", "x is int", 3, of()), node("two tested", "x is int", 3, of(1, 2)),
	node("a key too few", "{a: 1, b: 2}", 4, keys("a")), node("a key too many", "{a: 1, b: 2}", 4, keys("a", "b", "c")), node("a key twice", "{a: 1, b: 2}", 4, keys("a", "a")), node("no keys", "{a: 1, b: 2}", 4, keys()), node("a key that is none", "{a: 1}", 3, keys("A")), node("an empty key", "{a: 1}", 3, keys("")), node("a field as a key", "{a: 1}", 3, keys("a: 2, b")),
	node("fields without keys", "{a: 1}", 3, of()), node("a value twice", "{a: 1, b: 2}", 4, of(3, 3)),
	node("an operation tested", "x is int", 2, func(x *api.Node) { *x = api.Node{Kind: api.EInt} }), node("an argument less", "f(1, 2)", 4, of(2)), node("one part", "(x as int | null)", 5, of(3)), node("no parts", "(x as int | null)", 5, of()),
}

var moduleEdits = []edit{
	{"nothing", rich, func(m *api.Module) { *m = api.Module{} }},
	{"no name", rich, func(m *api.Module) { m.Name = "" }},
	{"a great name", rich, func(m *api.Module) { m.Name = "M" }},
	{"a keyword", rich, func(m *api.Module) { m.Name = "module" }},
	{"a name and an import", rich, func(m *api.Module) { m.Name = "m import c" }},
	{"no import's name", rich, func(m *api.Module) { m.Imports[1] = "" }},
	{"an import twice", rich, func(m *api.Module) { m.Imports[1] = "a" }},
	{"two imports in one", rich, func(m *api.Module) { m.Imports = []string{"a\nimport b"} }},
	{"17 imports", rich, func(m *api.Module) { m.Imports = strings.Split("abcdefghijklmnopq", "") }},
	{"a type's small name", rich, func(m *api.Module) { m.Types[0].Name = "t" }},
	{"no type's name", rich, func(m *api.Module) { m.Types[0].Name = "" }},
	{"a type less", rich, func(m *api.Module) { m.Types = m.Types[:1] }},
	{"types turned round", rich, func(m *api.Module) { slices.Reverse(m.Types) }},
	{"a type of another one", rich, func(m *api.Module) { m.Types[0].Type = m.Types[1].Type }},
	{"a type's part", rich, func(m *api.Module) { m.Types[0].Type-- }},
	{"a type below 0", rich, func(m *api.Module) { m.Types[0].Type = -1 }},
	{"a type that there is not", rich, func(m *api.Module) { m.Types[0].Type = len(m.Nodes) }},
	{"a great type", rich, func(m *api.Module) { m.Types[0].Type = math.MaxInt }},
	{"a function's great name", rich, func(m *api.Module) { m.Fns[0].Name = "F" }},
	{"a function less", rich, func(m *api.Module) { m.Fns = m.Fns[1:] }},
	{"functions turned round", rich, func(m *api.Module) { slices.Reverse(m.Fns) }},
	{"a function twice", rich, func(m *api.Module) { m.Fns = append(m.Fns, m.Fns[1]) }},
	{"a parameter twice", rich, func(m *api.Module) { m.Fns[0].Params[1].Name = "x" }},
	{"a parameter's great name", rich, func(m *api.Module) { m.Fns[0].Params[1].Name = "X" }},
	{"a parameter less", rich, func(m *api.Module) { m.Fns[0].Params = nil }},
	{"a parameter's type below 0", rich, func(m *api.Module) { m.Fns[0].Params[0].Type = -1 }},
	{"parameters' types turned round", rich, func(m *api.Module) {
		p := m.Fns[0].Params
		p[0].Type, p[1].Type = p[1].Type, p[0].Type
	}},
	{"a type parameter twice", rich, func(m *api.Module) { m.Fns[0].Vars[1].Name = "A" }},
	{"a type parameter's small name", rich, func(m *api.Module) { m.Fns[0].Vars[1].Name = "a" }},
	{"a type parameter less", rich, func(m *api.Module) { m.Fns[0].Vars = m.Fns[0].Vars[:1] }},
	{"a bound that there is not", rich, func(m *api.Module) { m.Fns[0].Vars[1].Type = 1 << 40 }},
	{"a result below 0", rich, func(m *api.Module) { m.Fns[0].Ret = -1 }},
	{"a result that there is not", rich, func(m *api.Module) { m.Fns[0].Ret = len(m.Nodes) }},
	{"a body as a result", rich, func(m *api.Module) { m.Fns[0].Ret = m.Fns[0].Body }},
	{"a body below 0", rich, func(m *api.Module) { m.Fns[1].Body = math.MinInt }},
	{"a body that there is not", rich, func(m *api.Module) { m.Fns[1].Body++ }},
	{"a body that is a child", rich, func(m *api.Module) { m.Fns[1].Body-- }},
	{"a node more", rich, func(m *api.Module) { m.Nodes = append(m.Nodes, api.Node{Kind: api.ENull}) }},
	{"a node less", rich, func(m *api.Module) { m.Nodes = m.Nodes[:len(m.Nodes)-1] }},
	{"no nodes", rich, func(m *api.Module) { m.Nodes = nil }},
	{"nodes in another order", inBody("f(1, 2)"), func(m *api.Module) {
		m.Nodes[2], m.Nodes[3] = m.Nodes[3], m.Nodes[2]
		m.Nodes[4].L = []int{3, 2}
	}},
	{"declarations in another order", inBody("1"), func(m *api.Module) {
		m.Nodes[0], m.Nodes[1] = m.Nodes[1], m.Nodes[0]
		m.Fns[0].Params[0].Type, m.Fns[0].Ret = 1, 0
	}},
	{"a part shared", inType("{a: int, b: int}"), func(m *api.Module) {
		m.Nodes = []api.Node{m.Nodes[0], {Kind: api.TRec, Keys: []string{"a", "b"}, L: []int{0, 0}}}
		m.Types[0].Type = 1
	}},
}

func TestP4_1_Invalid(t *testing.T) {
	for _, x := range slices.Concat(nodeEdits, moduleEdits) {
		m := parsed(t, x.on)
		if e := print.Check(m); e != api.OK {
			t.Errorf("%s: error %d ahead of the edit", x.what, e)
		}
		x.do(&m)
		refused(t, x.what, m)
	}
}

func TestP4_1_StillValid(t *testing.T) {
	for _, x := range []struct {
		edit
		want string
	}{
		{node("another name", "x", 2, called("y")), inBody("y")}, {node("another tag", "'a", 2, called("let")), inBody("'let")}, {node("another number", "1", 2, num(api.MaxInt)), inBody("2147483647")},
		{node("another kind", "true", 2, kind(api.ENull)), inBody("null")}, {node("another type", "1", 1, kind(api.TDyn)), "module m\nfn f(x: T): dyn = 1\n"}, {node("another sign", "1 + 2", 4, called("==")), inBody("1 == 2")},
		{node("a module", "f()", 2, inMod("a")), inBody("a::f()")}, {node("a type's module", "f[T]()", 2, inMod("m")), inBody("f[m::T]()")}, {node("another shape", "x is int", 3, called("'int")), inBody("x is 'int")}, {node("another key", "{a: 1}", 3, keys("b")), inBody("{b: 1}")},
		{edit{"no imports", rich, func(m *api.Module) { m.Imports = []string{} }}, strings.Replace(rich, "import a\nimport b\n", "", 1)},
		{edit{"empty lists", inBody("f(x)"), func(m *api.Module) {
			m.Imports, m.Types, m.Fns[0].Vars, m.Nodes[2].Keys, m.Nodes[2].L = []string{}, []api.Decl{}, []api.Var{}, []string{}, []int{}
		}}, inBody("f(x)")},
		{edit{"other names", rich, func(m *api.Module) { m.Name, m.Imports[1], m.Types[1].Name, m.Fns[1].Name = "n", "m", "T", "f" }}, strings.NewReplacer("module m", "module n", "import b", "import m", "type U", "type T", "fn g", "fn f").Replace(rich)},
	} {
		m := parsed(t, x.on)
		x.do(&m)
		if s, e := print.Module(m); s != x.want || e != api.OK {
			t.Errorf("%s: %s, error %d; want %s", x.what, brief(s), e, brief(x.want))
		}
	}
}

// doubled is a module in which each node has the one ahead of it twice: written, it would be of no end.
func doubled(n int) api.Module {
	m := api.Module{Name: "m", Types: []api.Decl{{Name: "T", Type: n - 1}}, Nodes: []api.Node{{Kind: api.TInt}}}
	for i := range n - 1 {
		m.Nodes = append(m.Nodes, api.Node{Kind: api.TRec, Keys: []string{"a", "b"}, L: []int{i, i}})
	}
	return m
}

// chained is a module of n nodes, each of which is the only child of the one behind it.
func chained(n int) api.Module {
	m := api.Module{Name: "m", Types: []api.Decl{{Name: "T", Type: n - 1}}, Nodes: make([]api.Node, n)}
	m.Nodes[0].Kind = api.TInt
	for i := range n - 1 {
		m.Nodes[i+1] = api.Node{Kind: api.TRec, Keys: []string{"a"}, L: []int{i}}
	}
	return m
}

func TestP4_1_Hostile(t *testing.T) {
	refused(t, "doubled", doubled(100))
	refused(t, "chained as deep as there may be nodes", chained(api.MaxNodes))
	refused(t, "chained without end", chained(1_000_000))
	refused(t, "one deeper than may be", chained(api.MaxDepth+1))
	if e := print.Check(chained(api.MaxDepth)); e != api.OK {
		t.Errorf("as deep as may be: error %d", e)
	}
	m := api.Module{Name: "m", Types: []api.Decl{{Name: "T", Type: 0}}, Nodes: []api.Node{{Kind: api.TUnion, L: []int{0, 0}}}}
	refused(t, "in a circle", m)
	m.Nodes = []api.Node{{Kind: api.TRec, Keys: []string{"a"}, L: []int{1}}, {Kind: api.TRec, Keys: []string{"a"}, L: []int{0}}}
	refused(t, "in a circle of two", m)
	// The same long name everywhere: the text would have gigabytes.
	long := strings.Repeat("a", 1<<22)
	m = parsed(t, inBody("f("+strings.Repeat("x, ", 15)+"x)"))
	for i := range m.Nodes {
		m.Nodes[i].Name = long
	}
	m.Imports = slices.Repeat([]string{long}, 1000)
	refused(t, "long names", m)
	refused(t, "many imports", api.Module{Name: "m", Imports: make([]string, 1_000_000)})
	refused(t, "many functions", api.Module{Name: "m", Fns: make([]api.Fn, 1_000_000), Nodes: []api.Node{{Kind: api.TInt}}})
}

// A breaker changes modules at random.
type breaker struct{ r *rand.Rand }

func (b breaker) place(n int) int { return b.r.Intn(n+2) - 1 }

func (b breaker) name() string {
	l := []string{"", "a", "x", "T", "int", "'a", "+", "<", "==", "null", "let", "long_name_of_17_b", "a b", "(", "a#", "\n", "f()", "a::b", "\xff"}
	return l[b.r.Intn(len(l))]
}

func (b breaker) node(m api.Module) {
	if len(m.Nodes) == 0 {
		return
	}
	x := &m.Nodes[b.r.Intn(len(m.Nodes))]
	switch b.r.Intn(8) {
	case 0:
		x.Kind = b.place(api.EAs + 1)
	case 1:
		x.Num = b.place(3)
	case 2:
		x.Mod = b.name()
	case 3:
		x.Name = b.name()
	case 4:
		x.Keys = append(x.Keys[:b.r.Intn(len(x.Keys)+1)], b.name())
	case 5:
		x.L = append(x.L[:b.r.Intn(len(x.L)+1)], b.place(len(m.Nodes)))
	case 6:
		b.r.Shuffle(len(x.L), func(i, j int) { x.L[i], x.L[j] = x.L[j], x.L[i] })
	case 7:
		x.L = x.L[:b.r.Intn(len(x.L)+1)]
	}
}

func (b breaker) declared(m *api.Module) {
	switch n := b.r.Intn(5); {
	case n == 0:
		m.Name = b.name()
	case n == 1:
		m.Imports = append(m.Imports, b.name())
	case n == 2 && len(m.Types) > 0:
		m.Types[b.r.Intn(len(m.Types))] = api.Decl{Name: b.name(), Type: b.place(len(m.Nodes))}
	case n == 3 && len(m.Fns) > 0:
		f := &m.Fns[b.r.Intn(len(m.Fns))]
		f.Params = append(f.Params, api.Var{Name: b.name(), Type: b.place(len(m.Nodes))})
	case n == 4 && len(m.Fns) > 0:
		f := &m.Fns[b.r.Intn(len(m.Fns))]
		f.Name, f.Ret, f.Body = b.name(), b.place(len(m.Nodes)), b.place(len(m.Nodes))
	}
}

func TestP4_1_Broken(t *testing.T) {
	valid, changed := 0, 0
	someModules(7, 3000, func(k maker, p phrase) {
		b := breaker{k.r}
		m, was := parsed(t, p.text), parsed(t, p.text)
		for range 1 + b.r.Intn(3) {
			if b.r.Intn(3) > 0 {
				b.node(m)
			} else {
				b.declared(&m)
			}
		}
		if tree.Same(m, was) {
			return
		}
		changed++
		s, e := print.Module(m)
		if e != api.OK {
			refused(t, "a change of "+brief(p.canon), m)
			return
		}
		valid++
		if other, _, e := tree.Parse(s); e != api.OK || !tree.Same(other, m) {
			t.Errorf("%s: parsed as another module than %+v", brief(s), m)
		}
	})
	if valid < 30 || changed-valid < 1000 {
		t.Errorf("%d changes, %d of them valid", changed, valid)
	}
}

// sized is a text that has as many bytes as told when it is canonical, and some less as it is.
func sized(bytes int) string {
	field := strings.Repeat("k", 14) + ": '" + strings.Repeat("t", 16) + ", "
	var fields strings.Builder
	for i := range 16 {
		fields.WriteString(string(rune('a'+i)) + field)
	}
	line := "type T = {" + strings.TrimSuffix(fields.String(), ", ") + "}\n"
	var b strings.Builder
	b.WriteString("module m\n")
	for range 60 {
		b.WriteString(line)
	}
	line = "fn f(): int = {" + strings.TrimSuffix(fields.String(), ", ") + "}\n"
	for b.Len()+len(line)+50 < bytes {
		b.WriteString(line)
	}
	const first, more = "fn f(): int = x", " + x"
	rest := bytes - b.Len() - len(first) - len("\n")
	b.WriteString(strings.Replace(first, "f()", "f"+strings.Repeat("f", rest%len(more))+"()", 1))
	b.WriteString(strings.Repeat(more, rest/len(more)) + "\n")
	return strings.ReplaceAll(b.String(), " + ", "+")
}

func TestP4_4_Size(t *testing.T) {
	for _, bytes := range []int{api.MaxText - 2, api.MaxText - 1, api.MaxText} {
		s := sized(bytes)
		text := tidied(t, s)
		if len(text) != bytes || len(s) >= bytes {
			t.Fatalf("a text of %d bytes, as canonical text %d; want %d", len(s), len(text), bytes)
		}
		means(t, s, text)
		if again := tidied(t, text); again != text {
			t.Errorf("of %d bytes: tidied to another text", bytes)
		}
	}
	// A text that is too long to be parsed is written, but the module is not valid.
	for _, bytes := range []int{api.MaxText + 1, api.MaxText + 2, api.MaxText + 19} {
		s := sized(bytes)
		text := tidied(t, s)
		if len(text) != bytes || len(s) > api.MaxText {
			t.Fatalf("a text of %d bytes, as canonical text %d; want %d", len(s), len(text), bytes)
		}
		refused(t, "a text too long", parsed(t, s))
	}
	most := inBody("f(" + strings.Repeat("1,", 15) + "f(" + strings.Repeat("x+", 1980) + "x))")
	if text := tidied(t, most); text != strings.NewReplacer(",", ", ", "+", " + ").Replace(most) {
		t.Errorf("tidied to %s", brief(text))
	}
	widest := "module m" + strings.Repeat(" type T={}", 64) + strings.Repeat(" fn f():T={}", 64)
	if text := tidied(t, widest); text != "module m\n"+strings.Repeat("type T = {}\n", 64)+strings.Repeat("fn f(): T = {}\n", 64) {
		t.Errorf("tidied to %s", brief(text))
	}
}
