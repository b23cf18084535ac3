package cert_test

import (
	"fmt"
	"math"
	"slices"
	"strings"
	"testing"

	"armillary/api"
	"armillary/cert"
	"armillary/fact"
)

// Nodes of a graph, by their kinds.
func plain(kind int) api.GNode          { return api.GNode{Kind: kind} }
func tag(name string) api.GNode         { return api.GNode{Kind: api.TTag, Name: name} }
func union(l ...int) api.GNode          { return api.GNode{Kind: api.TUnion, L: l} }
func variable(num, bound int) api.GNode { return api.GNode{Kind: api.TVar, Num: num, L: []int{bound}} }

func record(keys string, l ...int) api.GNode {
	return api.GNode{Kind: api.TRec, Keys: strings.Fields(keys), L: l}
}

// inRow are so many plain nodes.
func inRow(n int) []api.GNode { return slices.Repeat([]api.GNode{plain(api.TInt)}, n) }

func arg(node int, types ...int) api.Arg { return api.Arg{Node: node, Types: types} }

// of is a fact.
func of(a, b int, why ...int) api.Fact { return api.Fact{A: a, B: b, Why: why} }

func use(node, part, fact int) api.Use { return api.Use{Node: node, Part: part, Fact: fact} }

func need(node, part, a, b int) api.Need { return api.Need{Node: node, Part: part, A: a, B: b} }

func sum(module string, n int) api.Sum { return api.Sum{Module: module, Sum: n} }

// show writes nodes of a graph, by their kinds.
func show(g []api.GNode) string {
	names := [...]string{api.TDyn: "dyn", api.TNull: "null", api.TBool: "bool", api.TInt: "int"}
	var l []string
	for i, n := range g {
		s := fmt.Sprint(n)
		switch {
		case api.TDyn <= n.Kind && n.Kind <= api.TInt:
			s = names[n.Kind]
		case n.Kind == api.TTag:
			s = "'" + n.Name
		case n.Kind == api.TVar:
			s = fmt.Sprintf("variable %d %v", n.Num, n.L)
		case n.Kind == api.TUnion:
			s = strings.ReplaceAll(listed(n.L), " ", "|")
		case n.Kind == api.TRec && len(n.Keys) == len(n.L):
			var fields []string
			for k, key := range n.Keys {
				fields = append(fields, fmt.Sprintf("%s: %d", key, n.L[k]))
			}
			s = "{" + strings.Join(fields, ", ") + "}"
		}
		l = append(l, fmt.Sprintf("%d %s", i, s))
	}
	return strings.Join(l, "; ")
}

func listed(l []int) string { return strings.Trim(fmt.Sprint(l), "[]") }

// written is a certificate as a text.
func written(c api.Cert) string {
	var args, facts, uses, sums []string
	for _, a := range c.Args {
		args = append(args, fmt.Sprintf("%d of %s", a.Node, listed(a.Types)))
	}
	for _, f := range c.Facts {
		facts = append(facts, fmt.Sprintf("%d for %d, %s", f.A, f.B, listed(f.Why)))
	}
	for _, u := range c.Uses {
		uses = append(uses, fmt.Sprintf("%d %d %d", u.Node, u.Part, u.Fact))
	}
	for _, s := range c.Sums {
		sums = append(sums, fmt.Sprintf("%s %d", s.Module, s.Sum))
	}
	all := []string{c.Module + ": " + show(c.Graph), "types " + listed(c.Types)}
	for i, l := range [][]string{args, facts, uses, sums} {
		if len(l) > 0 {
			all = append(all, []string{"args ", "facts ", "uses ", "sums "}[i]+strings.Join(l, "; "))
		}
	}
	return strings.Join(all, " | ")
}

// told writes a result: a certificate, or an error, with which there must be none.
func told(c api.Cert, e api.Errno) string {
	switch {
	case e == api.OK:
		return written(c)
	case !isZero(c):
		return fmt.Sprintf("error %d, but %s", e, written(c))
	}
	return fmt.Sprintf("error %d", e)
}

func isZero(c api.Cert) bool {
	return c.Module == "" && len(c.Graph) == 0 && len(c.Types) == 0 && len(c.Args) == 0 && len(c.Facts) == 0 && len(c.Uses) == 0 && len(c.Sums) == 0
}

// chapter is the draft of the chapter's examples.
func chapter() cert.Draft {
	return cert.Draft{
		Module: "m",
		Graph:  []api.GNode{plain(api.TInt), union(0, 2), plain(api.TNull)},
		Types:  []int{0, 1, -1},
		Needs:  []api.Need{need(1, 0, 0, 1)},
		Sums:   []api.Sum{sum("a", 7)},
	}
}

// rich is a draft that has several of everything; hardly a node of its graph is where the certificate has it.
func rich() cert.Draft {
	return cert.Draft{
		Module: "rich_1",
		Graph: []api.GNode{
			tag("far"), plain(api.TNull), union(3, 1), record("hd tl", 4, 2), plain(api.TInt), variable(0, 6), plain(api.TDyn), plain(api.TInt), union(1, 9), record("hd tl", 7, 8),
			union(4, 1), record("hd tl", 10, 12), union(1, 11), union(7, 4),
		},
		Types: []int{-1, 10, 3, 5, -1, 13, 2},
		Args:  []api.Arg{arg(1, 8), arg(3, 7, 5, 4), arg(6, 12)},
		Needs: []api.Need{need(0, 0, 3, 11), need(0, 255, 2, 12), need(2, 7, 6, 5), need(5, 0, 5, 6), need(5, 1, 7, 10)},
		Sums:  []api.Sum{sum("a", 0), sum("a_b", math.MaxUint32), sum("b", 70000)},
	}
}

// made returns the certificate of a draft that has one.
func made(t *testing.T, d cert.Draft) api.Cert {
	t.Helper()
	c, e := cert.Of(d)
	if e != api.OK {
		t.Fatalf("error %d", e)
	}
	return c
}

func TestP13_2_Examples(t *testing.T) {
	c, e := cert.Of(chapter())
	if got, want := told(c, e), "m: 0 int; 1 2|0; 2 null | types 0 1 -1 | facts 0 for 1, 1 | uses 1 0 0 | sums a 7"; got != want {
		t.Errorf("%s, not %s", got, want)
	}
	for _, x := range []struct {
		what      string
		got, want int
	}{
		{"Type(1)", cert.Type(c, 1), 1}, {"Type(2)", cert.Type(c, 2), -1}, {"Type(3)", cert.Type(c, 3), -1},
		{"Fact(1, 0)", cert.Fact(c, 1, 0), 0}, {"Fact(1, 1)", cert.Fact(c, 1, 1), -1},
		{"Sum(a)", cert.Sum(c, "a"), 7}, {"Sum(b)", cert.Sum(c, "b"), -1},
	} {
		if x.got != x.want {
			t.Errorf("%s: %d, not %d", x.what, x.got, x.want)
		}
	}
	for _, x := range []struct {
		n    api.Need
		want string
	}{{need(1, 0, 1, 0), "error 160"}, {need(1, 0, 3, 0), "error 2"}} {
		d := chapter()
		d.Needs[0] = x.n
		if got := told(cert.Of(d)); got != x.want {
			t.Errorf("%v: %s, not %s", x.n, got, x.want)
		}
	}
}

func TestP13_2_Of(t *testing.T) {
	const (
		graphOfRich = "rich_1: 0 1|2; 1 null; 2 int; 3 {hd: 2, tl: 4}; 4 1|3; 5 variable 0 [6]; 6 dyn; 7 1|8; 8 {hd: 0, tl: 7}"
		restOfRich  = "types -1 0 3 5 -1 2 4 | args 1 of 4; 3 of 2 5 2; 6 of 7 | " +
			"facts 3 for 8, 0 1 2; 2 for 0, 1; 4 for 7, 3 4; 1 for 7, 0; 3 for 7, 1 1 2; 6 for 5, 0; 5 for 6, 0 | " +
			"uses 0 0 0; 0 255 2; 2 7 5; 5 0 6; 5 1 1 | sums a 0; a_b 4294967295; b 70000"
	)
	for _, x := range []struct {
		what   string
		change func(d *cert.Draft)
		want   string
	}{
		{"as it is", func(*cert.Draft) {}, graphOfRich + " | " + restOfRich},
		{"nothing but a name", func(d *cert.Draft) { *d = cert.Draft{Module: "x"} }, "x:  | types "},
		{"a graph that nothing leads to", func(d *cert.Draft) { *d = cert.Draft{Module: "x", Graph: d.Graph, Types: []int{-1, -1}} }, "x:  | types -1 -1"},
		{"types alone", func(d *cert.Draft) { *d = cert.Draft{Module: "x", Graph: d.Graph, Types: []int{6, -1, 7, 4, 6}} }, "x: 0 dyn; 1 int | types 0 -1 1 1 0"},
		{"types, then args, then both ends of needs", func(d *cert.Draft) {
			*d = cert.Draft{Module: "x", Graph: d.Graph, Types: []int{-1, 0}, Args: []api.Arg{arg(0, 6, 1)}, Needs: []api.Need{need(0, 0, 4, 10), need(0, 1, 3, 3)}}
		}, "x: 0 'far; 1 dyn; 2 null; 3 int; 4 2|3; 5 {hd: 3, tl: 6}; 6 2|5 | types -1 0 | args 0 of 1 2 | facts 3 for 4, 1; 5 for 5, 0 2 3; 3 for 3, 0; 6 for 6, 4 5; 2 for 6, 0; 5 for 6, 1 2 3 | uses 0 0 0; 0 1 1"},
		{"each end of a need ahead of the next need", func(d *cert.Draft) {
			*d = cert.Draft{Module: "x", Graph: d.Graph, Types: []int{-1}, Needs: []api.Need{need(0, 0, 1, 6), need(0, 1, 4, 6)}}
		}, "x: 0 null; 1 dyn; 2 int | types -1 | facts 0 for 1, 0; 2 for 1, 0 | uses 0 0 0; 0 1 1"},
		{"each arg's types ahead of the next arg", func(d *cert.Draft) {
			*d = cert.Draft{Module: "x", Graph: d.Graph, Types: []int{-1, -1}, Args: []api.Arg{arg(0, 6, 1, 7, 6), arg(1, 0, 4)}}
		}, "x: 0 dyn; 1 null; 2 int; 3 'far | types -1 -1 | args 0 of 0 1 2 0; 1 of 3 2"},
		{"equal needs have one fact", func(d *cert.Draft) {
			*d = cert.Draft{Module: "x", Graph: d.Graph, Types: []int{-1, 2}, Needs: []api.Need{need(0, 3, 8, 2), need(0, 4, 4, 13), need(1, 0, 7, 4), need(1, 200, 2, 8)}}
		}, "x: 0 1|2; 1 null; 2 {hd: 3, tl: 0}; 3 int | types -1 0 | facts 0 for 0, 1 2; 1 for 0, 0; 2 for 0, 1 3 0; 3 for 3, 0 | uses 0 3 0; 0 4 3; 1 0 3; 1 200 0"},
		{"facts in the order of the needs", func(d *cert.Draft) {
			*d = cert.Draft{Module: "x", Graph: d.Graph, Types: []int{4, 10, 6}, Needs: []api.Need{need(0, 0, 10, 10), need(1, 0, 4, 10), need(2, 0, 6, 4), need(2, 1, 4, 6)}}
		}, "x: 0 int; 1 2|0; 2 null; 3 dyn | types 0 1 3 | facts 1 for 1, 1 2; 2 for 1, 0; 0 for 1, 1; 3 for 0, 0; 0 for 3, 0 | uses 0 0 0; 1 0 2; 2 0 3; 2 1 4"},
	} {
		d := rich()
		x.change(&d)
		if got := told(cert.Of(d)); got != x.want {
			t.Errorf("%s: %s, not %s", x.what, got, x.want)
		}
	}
}

// parts are what certificates and drafts have in common.
type parts struct {
	module *string
	graph  *[]api.GNode
	types  *[]int
	args   *[]api.Arg
	sums   *[]api.Sum
}

func partsOfCert(c *api.Cert) parts {
	return parts{&c.Module, &c.Graph, &c.Types, &c.Args, &c.Sums}
}

func partsOfDraft(d *cert.Draft) parts {
	return parts{&d.Module, &d.Graph, &d.Types, &d.Args, &d.Sums}
}

// A change makes of what is valid something that is, or is not.
type change struct {
	what   string
	change func(p parts)
	want   api.Errno
}

// changed tests a change of a certificate and of the draft that it is of.
func changed(t *testing.T, l []change) {
	t.Helper()
	for _, x := range l {
		c := made(t, rich())
		x.change(partsOfCert(&c))
		judge(t, x.what, c, x.want)
		d := rich()
		x.change(partsOfDraft(&d))
		drafted(t, x.what, d, x.want)
	}
}

// judge tests what is told of a certificate whose facts hold if it is valid.
func judge(t *testing.T, what string, c api.Cert, want api.Errno) {
	t.Helper()
	if e := cert.Check(c); e != want {
		t.Errorf("%s: Check returns %d, not %d", what, e, want)
	}
	a, e := cert.Again(c)
	if e != want || e != api.OK && !isZero(a) {
		t.Errorf("%s: Again returns %s, not error %d", what, told(a, e), want)
	}
}

// drafted tests what is told of a draft.
func drafted(t *testing.T, what string, d cert.Draft, want api.Errno) {
	t.Helper()
	if c, e := cert.Of(d); e != want || e != api.OK && !isZero(c) {
		t.Errorf("%s: Of returns %s, not error %d", what, told(c, e), want)
	}
}

// noNames are texts that are no names.
func noNames() []string {
	return []string{"", "A", "Name", "1", "_", "_a", "a-b", "a b", " a", "a ", "aB", "a\n", "'a", "a::b", "ä", "a\x00", "null", "type", "int", "in", "is", "module", strings.Repeat("a", 17), strings.Repeat("a", 1<<16)}
}

func names() []string {
	return []string{"a", "z", "a1", "a_", "x_1", "nulls", "modul", "typ", "a23456789012345", strings.Repeat("b", 16)}
}

// noNumbers are indices that a list of a length has not.
func noNumbers(length int) []int {
	return []int{-1, -2, length, length + 1, 256, 2000, 4000, 8000, 1 << 16, 1 << 32, math.MaxInt, math.MinInt}
}

func TestP13_1_Module(t *testing.T) {
	for _, s := range noNames() {
		changed(t, []change{{fmt.Sprintf("%q", s), func(p parts) { *p.module = s }, api.ErrArg}})
	}
	for _, s := range names() {
		changed(t, []change{{s, func(p parts) { *p.module = s }, api.OK}})
	}
	changed(t, []change{{"the name of an imported module", func(p parts) { *p.module = "b" }, api.OK}})
}

func TestP13_1_Graph(t *testing.T) {
	add := func(n api.GNode) func(p parts) {
		return func(p parts) { *p.graph = append(*p.graph, n) }
	}
	changed(t, []change{
		{"a node that nothing leads to", add(plain(api.TBool)), api.OK},
		{"a node twice", add(plain(api.TNull)), api.OK},
		{"no kind", add(plain(0)), api.ErrArg},
		{"a name", add(api.GNode{Kind: api.TName, Name: "T"}), api.ErrArg},
		{"an expression", add(plain(api.EInt)), api.ErrArg},
		{"a great letter", add(tag("A")), api.ErrArg},
		{"keys without types", add(record("a")), api.ErrArg},
		{"keys that fall", add(record("b a", 1, 1)), api.ErrArg},
		{"a union of one", add(union(1)), api.ErrArg},
		{"a union of one twice", add(union(1, 1)), api.ErrArg},
		{"a child that is no node", add(variable(0, 2000)), api.ErrArg},
		{"a negative child", add(variable(0, -1)), api.ErrArg},
		{"a variable behind the last one", add(variable(16, 1)), api.ErrArg},
		{"2000 nodes", func(p parts) { *p.graph = append(*p.graph, inRow(2000-len(*p.graph))...) }, api.OK},
		{"2001 nodes", func(p parts) { *p.graph = append(*p.graph, inRow(2001-len(*p.graph))...) }, api.ErrLimit},
		{"2001 nodes that are no nodes", func(p parts) { *p.graph = make([]api.GNode, 2001) }, api.ErrLimit},
		{"many nodes", func(p parts) { *p.graph = inRow(1 << 16) }, api.ErrLimit},
		{"no graph", func(p parts) { *p.graph = nil }, api.ErrArg},
		{"2000 that are no nodes", func(p parts) { *p.graph = make([]api.GNode, 2000) }, api.ErrArg},
	})
}

func TestP13_1_Types(t *testing.T) {
	set := func(n int) func(p parts) { return func(p parts) { (*p.types)[3] = n } }
	cut := func(n int) func(p parts) { return func(p parts) { *p.types = (*p.types)[:n] } }
	fill := func(length, n int) func(p parts) {
		return func(p parts) { *p.types = append(*p.types, slices.Repeat([]int{n}, length-len(*p.types))...) }
	}
	changed(t, []change{
		{"none", set(-1), api.OK}, {"the first one", set(0), api.OK},
		{"the last one", func(p parts) { (*p.types)[0] = len(*p.graph) - 1 }, api.OK},
		{"behind the last one", func(p parts) { (*p.types)[0] = len(*p.graph) }, api.ErrArg},
		{"behind the last one, at the end", func(p parts) { (*p.types)[len(*p.types)-1] = len(*p.graph) }, api.ErrArg},
		{"-2", set(-2), api.ErrArg}, {"great", set(math.MaxInt), api.ErrArg}, {"very negative", set(math.MinInt), api.ErrArg}, {"2^32", set(1 << 32), api.ErrArg},
		{"one too few", cut(6), api.ErrArg}, {"too few", cut(4), api.ErrArg}, {"no types", cut(0), api.ErrArg},
		{"4000", fill(4000, 0), api.OK}, {"4000 without", fill(4000, -1), api.OK}, {"4000, some of which are none", fill(4000, -2), api.ErrArg},
		{"4001", fill(4001, 0), api.ErrLimit}, {"4001 without", fill(4001, -1), api.ErrLimit}, {"4001 that are none", fill(4001, -2), api.ErrLimit},
		{"many", fill(1<<16, 0), api.ErrLimit},
	})
}

func TestP13_1_Args(t *testing.T) {
	set := func(l ...api.Arg) func(p parts) { return func(p parts) { *p.args = l } }
	var many []api.Arg
	for i := range 7 {
		many = append(many, arg(i, i))
	}
	l := []change{
		{"nothing", set(), api.OK}, {"one for each node", set(many...), api.OK},
		{"one for a node that is none", set(append(many, arg(7, 0))...), api.ErrArg},
		{"one for no node", set(append([]api.Arg{arg(-1, 0)}, many...)...), api.ErrArg},
		{"one twice", set(arg(2, 0), arg(2, 0)), api.ErrArg},
		{"one twice, with other types", set(arg(1, 0), arg(2, 0), arg(2, 1)), api.ErrArg},
		{"in falling order", set(arg(3, 0), arg(2, 0)), api.ErrArg},
		{"in no order", set(arg(0, 0), arg(3, 0), arg(2, 0), arg(5, 0)), api.ErrArg},
		{"no types", set(arg(2)), api.ErrArg},
		{"no types in the last one", set(arg(2, 1), arg(3)), api.ErrArg},
		{"one type", set(arg(2, 1)), api.OK},
		{"16 types", set(arg(2, slices.Repeat([]int{1}, 16)...)), api.OK},
		{"17 types", set(arg(2, slices.Repeat([]int{1}, 17)...)), api.ErrArg},
		{"many types", set(arg(2, slices.Repeat([]int{1}, 1<<16)...)), api.ErrArg},
		{"many args", set(slices.Repeat([]api.Arg{arg(2, 1)}, 1<<16)...), api.ErrArg},
		{"a type that is none, and one that is", set(arg(2, 1, -1, 1)), api.ErrArg},
		{"the last type", func(p parts) { *p.args = []api.Arg{arg(6, 0, len(*p.graph)-1)} }, api.OK},
		{"behind the last type", func(p parts) { *p.args = []api.Arg{arg(6, 0, len(*p.graph))} }, api.ErrArg},
	}
	for _, n := range noNumbers(14) {
		l = append(l, change{"no type", set(arg(2, n)), api.ErrArg}, change{"no node", set(arg(n, 1)), api.ErrArg})
	}
	changed(t, l)
}

func TestP13_1_Sums(t *testing.T) {
	set := func(l ...api.Sum) func(p parts) { return func(p parts) { *p.sums = l } }
	var many []api.Sum
	for i := range 17 {
		many = append(many, sum(fmt.Sprintf("m%02d", i), i))
	}
	l := []change{
		{"nothing", set(), api.OK},
		{"16", set(many[:16]...), api.OK}, {"17", set(many...), api.ErrArg},
		{"very many", set(slices.Repeat(many, 1<<12)...), api.ErrArg},
		{"0", set(sum("a", 0)), api.OK}, {"1", set(sum("a", 1)), api.OK}, {"2^32 - 1", set(sum("a", math.MaxUint32)), api.OK},
		{"2^32", set(sum("a", math.MaxUint32+1)), api.ErrArg}, {"-1", set(sum("a", -1)), api.ErrArg}, {"great", set(sum("a", math.MaxInt)), api.ErrArg}, {"very negative", set(sum("a", math.MinInt)), api.ErrArg},
		{"-1 at the end", set(sum("a", 0), sum("b", -1)), api.ErrArg},
		{"one twice", set(sum("a", 0), sum("a", 0)), api.ErrArg}, {"one twice, with other sums", set(sum("a", 0), sum("b", 0), sum("b", 1)), api.ErrArg},
		{"in falling order", set(sum("b", 0), sum("a", 1)), api.ErrArg}, {"in no order", set(sum("b", 0), sum("d", 1), sum("c", 2), sum("e", 3)), api.ErrArg},
		{"by bytes", set(sum("a", 0), sum("a0", 0), sum("a9", 0), sum("a_", 0), sum("aa", 0), sum("ab", 0), sum("b", 0)), api.OK},
		{"the underscore behind a letter", set(sum("aa", 0), sum("a_", 0)), api.ErrArg}, {"the longer one ahead", set(sum("aa", 0), sum("a", 0)), api.ErrArg},
		{"the module's own name", func(p parts) { *p.sums = []api.Sum{sum(*p.module, 0)} }, api.OK},
	}
	for _, s := range noNames() {
		l = append(l, change{fmt.Sprintf("%q", s), set(sum(s, 0)), api.ErrArg})
	}
	for _, s := range names() {
		l = append(l, change{s, set(sum(s, 0)), api.OK})
	}
	changed(t, l)
}

func TestP13_1_Facts(t *testing.T) {
	last := len(made(t, rich()).Facts) - 1
	for _, x := range []struct {
		what   string
		change func(l []api.Fact) []api.Fact
		want   api.Errno
	}{
		{"an A that is none", func(l []api.Fact) []api.Fact { l[0].A = 9; return l }, api.ErrArg},
		{"a B that is none", func(l []api.Fact) []api.Fact { l[last].B = -1; return l }, api.ErrArg},
		{"nothing as Why", func(l []api.Fact) []api.Fact { l[last].Why = nil; return l }, api.ErrArg},
		{"one that it refers to is none", func(l []api.Fact) []api.Fact { l[0].Why[2] = last + 1; return l }, api.ErrArg},
		{"one that no use needs", func(l []api.Fact) []api.Fact { return append(l, of(2, 2, 0)) }, api.OK},
		{"one twice", func(l []api.Fact) []api.Fact { return append(l, l[last]) }, api.OK},
		{"the last one is missing", func(l []api.Fact) []api.Fact { return l[:last] }, api.ErrArg},
		{"none", func([]api.Fact) []api.Fact { return nil }, api.ErrArg},
		{"8000", func(l []api.Fact) []api.Fact {
			return append(l, slices.Repeat([]api.Fact{of(2, 2, 0)}, 8000-len(l))...)
		}, api.OK},
		{"8001", func(l []api.Fact) []api.Fact {
			return append(l, slices.Repeat([]api.Fact{of(2, 2, 0)}, 8001-len(l))...)
		}, api.ErrLimit},
		{"8001 that are none", func([]api.Fact) []api.Fact { return make([]api.Fact, 8001) }, api.ErrLimit},
		{"8000 that are none", func([]api.Fact) []api.Fact { return make([]api.Fact, 8000) }, api.ErrArg},
	} {
		c := made(t, rich())
		c.Facts = x.change(c.Facts)
		judge(t, x.what, c, x.want)
	}
	// it is valid though a fact does not hold: of a need that is one, or of one that is none
	c := made(t, rich())
	c.Facts[0].Why[1] = 0
	c.Facts = append(c.Facts, of(1, 2, 0))
	judge(t, "does not hold", c, api.OK)
	c.Uses[0].Fact = last + 1
	if e := cert.Check(c); e != api.OK {
		t.Errorf("a use of null for int: error %d", e)
	}
	if got := told(cert.Again(c)); got != "error 160" {
		t.Errorf("a use of null for int: %s", got)
	}
}

// Where facts are used, and where they are needed.
func TestP13_1_Places(t *testing.T) {
	type at [2]int
	for _, x := range []struct {
		what   string
		places []at
		want   api.Errno
	}{
		{"nowhere", nil, api.OK}, {"once", []at{{3, 7}}, api.OK},
		{"the first part of the first node", []at{{0, 0}}, api.OK}, {"the last part of the last node", []at{{6, 255}}, api.OK},
		{"a node behind the last one", []at{{7, 0}}, api.ErrArg}, {"a node behind the last one, at the end", []at{{0, 0}, {7, 0}}, api.ErrArg}, {"no node", []at{{-1, 0}, {0, 0}}, api.ErrArg},
		{"a part behind the last one", []at{{0, 256}}, api.ErrArg}, {"no part", []at{{0, -1}}, api.ErrArg}, {"a great part", []at{{0, math.MaxInt}}, api.ErrArg}, {"a very negative part", []at{{0, math.MinInt}}, api.ErrArg},
		{"a great node", []at{{math.MaxInt, 0}}, api.ErrArg}, {"a very negative node", []at{{math.MinInt, 0}}, api.ErrArg},
		{"parts of a node", []at{{2, 0}, {2, 1}, {2, 9}, {2, 255}}, api.OK}, {"the same part of nodes", []at{{0, 4}, {2, 4}, {3, 4}}, api.OK},
		{"a lesser part of a later node", []at{{0, 9}, {1, 3}, {1, 8}, {4, 0}}, api.OK},
		{"one twice", []at{{1, 3}, {1, 3}}, api.ErrArg}, {"one twice, at the end", []at{{0, 0}, {1, 3}, {1, 3}}, api.ErrArg},
		{"parts in falling order", []at{{1, 3}, {1, 2}}, api.ErrArg}, {"nodes in falling order", []at{{2, 3}, {1, 3}}, api.ErrArg}, {"nodes in falling order, parts in rising order", []at{{2, 3}, {1, 4}}, api.ErrArg},
		{"in no order", []at{{1, 3}, {4, 3}, {3, 8}, {5, 1}}, api.ErrArg},
	} {
		c, d := made(t, rich()), rich()
		c.Uses, d.Needs = nil, nil
		for i, p := range x.places {
			c.Uses = append(c.Uses, use(p[0], p[1], i%len(c.Facts)))
			d.Needs = append(d.Needs, need(p[0], p[1], i, 6))
		}
		judge(t, x.what, c, x.want)
		drafted(t, x.what, d, x.want)
	}
}

func TestP13_1_Uses(t *testing.T) {
	c := made(t, rich())
	n := len(c.Facts)
	for i := range n {
		c.Uses[2].Fact = i
		judge(t, "a fact", c, api.OK)
	}
	for i := range c.Uses {
		for _, k := range noNumbers(n) {
			c := made(t, rich())
			c.Uses[i].Fact = k
			judge(t, fmt.Sprint(k), c, api.ErrArg)
		}
	}
	c.Facts = nil
	judge(t, "no fact", c, api.ErrArg)
	c.Uses = nil
	judge(t, "nothing is used", c, api.OK)
}

func TestP13_2_Needs(t *testing.T) {
	n := len(rich().Graph)
	for i := range rich().Needs {
		for _, k := range noNumbers(n) {
			d := rich()
			d.Needs[i].A = k
			drafted(t, fmt.Sprintf("A %d", k), d, api.ErrArg)
			d = rich()
			d.Needs[i].B = k
			drafted(t, fmt.Sprintf("B %d", k), d, api.ErrArg)
		}
		d := rich()
		d.Needs[i].A, d.Needs[i].B = 6, n-1
		drafted(t, "the last type", d, api.OK)
		d.Needs[i].A, d.Needs[i].B = 1, n-1
		drafted(t, "null for int", d, api.ErrType)
		d.Needs[i].A, d.Needs[i].B = 4, 5
		drafted(t, "int for a variable", d, api.ErrType)
		d.Needs[i].A, d.Needs[i].B = 12, 2
		drafted(t, "a list of more for a list of less", d, api.ErrType)
		d.Needs[i].A, d.Needs[i].B = 13, 10
		drafted(t, "a union of one for a union of it", d, api.OK)
	}
	d := rich()
	d.Types = nil
	d.Args = nil
	drafted(t, "needs of no nodes", d, api.ErrArg)
	d.Needs = nil
	drafted(t, "no needs", d, api.OK)
}

// The first error is told: what is too long, then what is not valid, then what is no subtype, then what makes too many facts.
func TestP13_2_OrderOfErrors(t *testing.T) {
	type set func(d *cert.Draft)
	tooLong := []set{
		func(d *cert.Draft) { d.Graph = append(d.Graph, inRow(2000)...) },
		func(d *cert.Draft) { d.Types = make([]int, 4001) },
		func(d *cert.Draft) { d.Needs = append(d.Needs, make([]api.Need, 8001)...) },
	}
	invalid := []set{
		func(d *cert.Draft) { d.Module = "M" },
		func(d *cert.Draft) { d.Graph[0] = plain(0) },
		func(d *cert.Draft) { d.Types[0] = -2 },
		func(d *cert.Draft) { d.Args[0].Types = nil },
		func(d *cert.Draft) { d.Needs[4].B = -1 },
		func(d *cert.Draft) { d.Needs[4].Part = 256 },
		func(d *cert.Draft) { d.Sums[0].Module = "c" },
		func(d *cert.Draft) { d.Sums = make([]api.Sum, 17) },
	}
	noSubtype := func(d *cert.Draft) { d.Needs[0].A, d.Needs[0].B = 1, 4 }
	for i, long := range tooLong {
		for k, not := range invalid {
			d := rich()
			noSubtype(&d)
			drafted(t, "no subtype", d, api.ErrType)
			not(&d)
			drafted(t, fmt.Sprintf("%d", k), d, api.ErrArg)
			long(&d)
			drafted(t, fmt.Sprintf("%d, %d", i, k), d, api.ErrLimit)
		}
	}
	certificates := []func(c *api.Cert){
		func(c *api.Cert) { c.Graph = append(c.Graph, inRow(2000)...) },
		func(c *api.Cert) { c.Types = make([]int, 4001) },
		func(c *api.Cert) { c.Facts = make([]api.Fact, 8001) },
		func(c *api.Cert) { c.Uses = make([]api.Use, 8001) },
	}
	for i, long := range certificates {
		c := made(t, rich())
		c.Module, c.Graph[0], c.Types[0], c.Uses[0].Fact, c.Sums = "M", plain(0), -2, -1, make([]api.Sum, 17)
		c.Args, c.Facts[0].Why = make([]api.Arg, 9000), nil
		judge(t, "not valid", c, api.ErrArg)
		long(&c)
		judge(t, fmt.Sprint(i), c, api.ErrLimit)
	}
}

// A certificate that is valid, but not as Of makes it, is made anew: without what nothing uses, in the canonical order.
func TestP13_2_Again(t *testing.T) {
	c := api.Cert{
		Module: "m",
		Graph:  []api.GNode{tag("unused"), plain(api.TInt), union(1, 3), plain(api.TNull), union(3, 5), plain(api.TInt), plain(api.TDyn)},
		Types:  []int{4, -1, 5, 1},
		Args:   []api.Arg{arg(1, 6), arg(3, 2, 3)},
		Facts:  []api.Fact{of(3, 4, 0), of(1, 2, 0), of(1, 6, 0), of(2, 4, 1, 3), of(6, 0, 0), of(5, 4, 1)},
		Uses:   []api.Use{use(1, 0, 5), use(1, 1, 3), use(3, 255, 1)},
		Sums:   []api.Sum{sum("k", 9)},
	}
	want := "m: 0 1|2; 1 null; 2 int; 3 dyn | types 0 -1 2 2 | args 1 of 3; 3 of 0 1 | facts 2 for 0, 1; 0 for 0, 2 0; 1 for 0, 0 | uses 1 0 0; 1 1 1; 3 255 0 | sums k 9"
	if got := told(cert.Again(c)); got != want {
		t.Errorf("%s, not %s", got, want)
	}
	// that 1 is not 5 makes the fact 3 one that does not hold, and Again asks for none that do
	if k, e := fact.First(c.Graph, c.Facts); k != 3 || e != api.OK {
		t.Errorf("fact %d, error %d", k, e)
	}
	for _, f := range []api.Fact{of(3, 1, 0), of(4, 5, 0, 0), of(1, 0, 0)} {
		c.Facts[1] = f
		if got := told(cert.Again(c)); got != "error 160" {
			t.Errorf("%v: %s", f, got)
		}
	}
	for _, f := range []api.Fact{of(6, 1, 0), of(1, 6, 0), of(5, 1, 0)} {
		c.Facts[1] = f
		if _, e := cert.Again(c); e != api.OK {
			t.Errorf("%v: error %d", f, e)
		}
	}
}

func TestP13_3_Same(t *testing.T) {
	changes := []func(c *api.Cert){
		func(c *api.Cert) { c.Module = "rich_2" },
		func(c *api.Cert) { c.Graph[0].Kind = api.TBool },
		func(c *api.Cert) { c.Graph[5].Num = 1 },
		func(c *api.Cert) { c.Graph[1].Name = "x" },
		func(c *api.Cert) { c.Graph[3].Keys[1] = "x" },
		func(c *api.Cert) { c.Graph[7].L[1] = 3 },
		func(c *api.Cert) { c.Graph = c.Graph[:8] },
		func(c *api.Cert) { c.Types[2] = 4 },
		func(c *api.Cert) { c.Types = c.Types[:6] },
		func(c *api.Cert) { c.Types = append(c.Types, -1) },
		func(c *api.Cert) { c.Args[1].Node = 5 },
		func(c *api.Cert) { c.Args[1].Types[2] = 4 },
		func(c *api.Cert) { c.Args[1].Types = c.Args[1].Types[:2] },
		func(c *api.Cert) { c.Args = c.Args[:2] },
		func(c *api.Cert) { c.Facts[3].A = 2 },
		func(c *api.Cert) { c.Facts[3].B = 2 },
		func(c *api.Cert) { c.Facts[0].Why[1] = 2 },
		func(c *api.Cert) { c.Facts = c.Facts[:5] },
		func(c *api.Cert) { c.Uses[1].Node = 2 },
		func(c *api.Cert) { c.Uses[1].Part = 2 },
		func(c *api.Cert) { c.Uses[1].Fact = 3 },
		func(c *api.Cert) { c.Uses = c.Uses[:3] },
		func(c *api.Cert) { c.Sums[2].Module = "c" },
		func(c *api.Cert) { c.Sums[2].Sum = 2 },
		func(c *api.Cert) { c.Sums = c.Sums[:2] },
		func(c *api.Cert) { *c = api.Cert{} },
		func(c *api.Cert) { c.Graph = nil }, func(c *api.Cert) { c.Types = nil }, func(c *api.Cert) { c.Args = nil },
		func(c *api.Cert) { c.Facts = nil }, func(c *api.Cert) { c.Uses = nil }, func(c *api.Cert) { c.Sums = nil },
	}
	c := made(t, rich())
	for i, change := range changes {
		d := made(t, rich())
		if !cert.Same(c, d) || !cert.Same(d, c) || !cert.Same(d, cert.Copy(c)) {
			t.Fatalf("%s is not %s", written(c), written(d))
		}
		change(&d)
		if cert.Same(c, d) || cert.Same(d, c) {
			t.Errorf("change %d: %s is %s", i, written(c), written(d))
		}
		if !cert.Same(d, d) || !cert.Same(cert.Copy(d), d) {
			t.Errorf("change %d: not as its copy", i)
		}
	}
}

func TestP13_3_NilAndEmpty(t *testing.T) {
	empty := api.Cert{Graph: []api.GNode{}, Types: []int{}, Args: []api.Arg{}, Facts: []api.Fact{}, Uses: []api.Use{}, Sums: []api.Sum{}}
	if !cert.Same(api.Cert{}, empty) || !cert.Same(empty, api.Cert{}) || !isZero(cert.Copy(empty)) || !isZero(cert.Copy(api.Cert{})) {
		t.Error("nil and empty lists")
	}
	inside := api.Cert{Graph: []api.GNode{{Keys: []string{}, L: []int{}}}, Args: []api.Arg{{Types: []int{}}}, Facts: []api.Fact{{Why: []int{}}}}
	without := api.Cert{Graph: make([]api.GNode, 1), Args: make([]api.Arg, 1), Facts: make([]api.Fact, 1)}
	for _, c := range []api.Cert{inside, without} {
		for _, d := range []api.Cert{inside, without} {
			if !cert.Same(c, d) || !cert.Same(cert.Copy(c), d) {
				t.Error("nil and empty lists inside")
			}
		}
	}
	empty.Module, empty.Graph, empty.Types = "m", []api.GNode{plain(api.TNull)}, []int{0}
	if e := cert.Check(empty); e != api.OK {
		t.Errorf("error %d", e)
	}
	d := cert.Draft{Module: "m", Graph: []api.GNode{{Kind: api.TNull, Keys: []string{}, L: []int{}}}, Types: []int{0}, Args: []api.Arg{}, Needs: []api.Need{}, Sums: []api.Sum{}}
	if c := made(t, d); !cert.Same(c, empty) {
		t.Errorf("%s is not %s", written(c), written(empty))
	}
}

// odd is no certificate: it has the same several times, in no order, and what is none.
func odd() api.Cert {
	return api.Cert{
		Types: []int{7, -1, -9, math.MaxInt},
		Args:  []api.Arg{arg(9, 1, 2), arg(-4), arg(9, 3), arg(3, 4), arg(-4, 5), arg(math.MinInt, -6)},
		Uses:  []api.Use{use(9, 1, 30), use(9, -1, -31), use(9, 1, 32), use(1, 9, 33), use(-1, 300, 34), use(1, 9, -1)},
		Sums:  []api.Sum{sum("b", -3), sum("", 40), sum("A b", 41), sum("b", 42), sum("", 43)},
	}
}

func TestP13_3_Type(t *testing.T) {
	c := odd()
	for i, want := range c.Types {
		if got := cert.Type(c, i); got != want {
			t.Errorf("%d: %d, not %d", i, got, want)
		}
	}
	for _, i := range noNumbers(len(c.Types)) {
		if got := cert.Type(c, i); got != -1 {
			t.Errorf("%d: %d", i, got)
		}
	}
	if got := cert.Type(api.Cert{}, 0); got != -1 {
		t.Errorf("none: %d", got)
	}
	if got := cert.Type(made(t, rich()), 4); got != -1 {
		t.Errorf("-1: %d", got)
	}
}

func TestP13_3_Args(t *testing.T) {
	for _, x := range []struct {
		node int
		want string
	}{{9, "1 2"}, {-4, ""}, {3, "4"}, {math.MinInt, "-6"}, {0, ""}, {1, ""}, {4, ""}, {-9, ""}, {math.MaxInt, ""}} {
		if got := listed(cert.Args(odd(), x.node)); got != x.want {
			t.Errorf("%d: %s, not %s", x.node, got, x.want)
		}
		if got := cert.Args(api.Cert{}, x.node); len(got) != 0 {
			t.Errorf("none: %d: %v", x.node, got)
		}
	}
	if got := listed(cert.Args(made(t, rich()), 3)); got != "2 5 2" {
		t.Error(got)
	}
}

func TestP13_3_Fact(t *testing.T) {
	for _, x := range []struct{ node, part, want int }{
		{9, 1, 30}, {9, -1, -31}, {1, 9, 33}, {-1, 300, 34}, {9, 0, -1}, {9, 2, -1}, {0, 1, -1}, {1, 1, -1}, {1, 300, -1}, {-1, 9, -1}, {0, 0, -1}, {math.MaxInt, math.MinInt, -1},
	} {
		if got := cert.Fact(odd(), x.node, x.part); got != x.want {
			t.Errorf("%d, %d: %d, not %d", x.node, x.part, got, x.want)
		}
		if got := cert.Fact(api.Cert{}, x.node, x.part); got != -1 {
			t.Errorf("none: %d, %d: %d", x.node, x.part, got)
		}
	}
}

func TestP13_3_Sum(t *testing.T) {
	for _, x := range []struct {
		module string
		want   int
	}{{"b", -3}, {"", 40}, {"A b", 41}, {"a", -1}, {"B", -1}, {"bb", -1}, {"A", -1}, {strings.Repeat("b", 1<<16), -1}} {
		if got := cert.Sum(odd(), x.module); got != x.want {
			t.Errorf("%q: %d, not %d", x.module, got, x.want)
		}
		if got := cert.Sum(api.Cert{}, x.module); got != -1 {
			t.Errorf("none: %q: %d", x.module, got)
		}
	}
}

func TestP13_3_CopyOfWhatIsNone(t *testing.T) {
	c := odd()
	c.Module, c.Graph, c.Facts = "no name", []api.GNode{union(3), {Kind: -5, Num: 9, Name: "A", Keys: []string{"", "x"}, L: []int{-1}}}, []api.Fact{of(-1, 99, -9, 7), of(0, 0)}
	if d := cert.Copy(c); !cert.Same(c, d) || written(c) != written(d) {
		t.Errorf("%s is not %s", written(c), written(d))
	}
}
