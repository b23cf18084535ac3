package tree_test

import (
	"math/rand"
	"slices"
	"strconv"
	"strings"
	"testing"

	"armillary/api"
	"armillary/lex"
	"armillary/tree"
)

// A maker makes a random module, as a text in tokens, and as the tree that the text has by the definitions.
type maker struct {
	r     *rand.Rand
	words []string
	extra []bool // of each token: whether it is a redundant parenthesis
	m     api.Module
}

func (k *maker) say(words ...string) {
	for _, w := range words {
		k.words, k.extra = append(k.words, w), append(k.extra, false)
	}
}

func (k *maker) add(n api.Node) int {
	k.m.Nodes = append(k.m.Nodes, n)
	return len(k.m.Nodes) - 1
}

func (k *maker) one(l ...string) string { return l[k.r.Intn(len(l))] }
func (k *maker) name() string           { return k.one("a", "b", "x", "y1", "long_name_of_16b", "lets", "rec_") }
func (k *maker) typeName() string       { return k.one("T", "Tree", "A", "Rec", "X9") }
func (k *maker) tag() string            { return k.one("a", "let", "null", "t_1") }

// distinct are some names, none twice.
func (k *maker) distinct(most int, l ...string) []string {
	k.r.Shuffle(len(l), func(i, j int) { l[i], l[j] = l[j], l[i] })
	return l[:k.r.Intn(most+1)]
}

// wrapped makes something, sometimes in redundant parentheses.
func (k *maker) wrapped(inner func() int) int {
	if k.r.Intn(5) > 0 {
		return inner()
	}
	k.say("(")
	k.extra[len(k.extra)-1] = true
	n := k.wrapped(inner)
	k.say(")")
	k.extra[len(k.extra)-1] = true
	return n
}

// separated makes items with a sign between them.
func (k *maker) separated(n int, sign string, item func(i int) int) (l []int) {
	for i := range n {
		if i > 0 {
			k.say(sign)
		}
		l = append(l, item(i))
	}
	return l
}

func (k *maker) record(kind, depth int, field func(depth int) int) int {
	keys := k.distinct(3, "a", "b", "x", "y", "q1")
	k.say("{")
	l := k.separated(len(keys), ",", func(i int) int {
		k.say(keys[i], ":")
		return field(depth - 1)
	})
	k.say("}")
	return k.add(api.Node{Kind: kind, Keys: keys, L: l})
}

// aType makes a type; depth is how many more may lie in each other.
func (k *maker) aType(depth int) int {
	return k.wrapped(func() int {
		if depth == 0 || k.r.Intn(3) > 0 {
			return k.part(depth)
		}
		l := k.separated(2+k.r.Intn(3), "|", func(int) int {
			if k.r.Intn(4) > 0 {
				return k.part(depth)
			}
			k.say("(")
			n := k.aTypeOrUnion(depth - 1)
			k.say(")")
			return n
		})
		return k.add(api.Node{Kind: api.TUnion, L: l})
	})
}

// aTypeOrUnion makes a union, so that parentheses around it are not redundant.
func (k *maker) aTypeOrUnion(depth int) int {
	l := k.separated(2, "|", func(int) int { return k.part(depth) })
	return k.add(api.Node{Kind: api.TUnion, L: l})
}

func (k *maker) part(depth int) int {
	if depth > 0 && k.r.Intn(3) == 0 {
		return k.record(api.TRec, depth, k.aType)
	}
	return k.wrapped(func() int {
		switch k.r.Intn(5) {
		case 0:
			tag := k.tag()
			k.say("'" + tag)
			return k.add(api.Node{Kind: api.TTag, Name: tag})
		case 1:
			name := k.typeName()
			k.say(name)
			return k.add(api.Node{Kind: api.TName, Name: name})
		case 2:
			mod, name := k.name(), k.typeName()
			k.say(mod, "::", name)
			return k.add(api.Node{Kind: api.TName, Mod: mod, Name: name})
		}
		kind := 1 + k.r.Intn(4)
		k.say([]string{api.TDyn: "dyn", api.TNull: "null", api.TBool: "bool", api.TInt: "int"}[kind])
		return k.add(api.Node{Kind: kind})
	})
}

func (k *maker) expr(depth int) int {
	return k.wrapped(func() int {
		if depth == 0 {
			return k.atom(0)
		}
		switch k.r.Intn(6) {
		case 0:
			name := k.name()
			k.say("let", name, "=")
			is := k.expr(depth - 1)
			k.say("in")
			return k.add(api.Node{Kind: api.ELet, Name: name, L: []int{is, k.expr(depth - 1)}})
		case 1:
			k.say("if")
			c := k.expr(depth - 1)
			k.say("then")
			yes := k.expr(depth - 1)
			k.say("else")
			return k.add(api.Node{Kind: api.EIf, L: []int{c, yes, k.expr(depth - 1)}})
		case 2:
			return k.test()
		}
		return k.sum(depth)
	})
}

func (k *maker) variable() int {
	name := k.name()
	k.say(name)
	return k.add(api.Node{Kind: api.EVar, Name: name})
}

func (k *maker) field(of int) int {
	name := k.name()
	k.say(".", name)
	return k.add(api.Node{Kind: api.EField, Name: name, L: []int{of}})
}

func (k *maker) test() int {
	n := k.wrapped(func() int {
		n := k.wrapped(k.variable)
		if k.r.Intn(2) == 0 {
			n = k.field(n)
		}
		return n
	})
	shape := k.one("null", "bool", "int", "rec", "'"+k.tag())
	k.say("is", shape)
	return k.add(api.Node{Kind: api.EIs, Name: shape, L: []int{n}})
}

func (k *maker) sum(depth int) int {
	n := k.wrapped(func() int { return k.prim(depth) })
	for range k.r.Intn(3) {
		sign := k.one("+", "<", "==")
		k.say(sign)
		right := k.wrapped(func() int { return k.prim(depth) })
		n = k.add(api.Node{Kind: api.EOp, Name: sign, L: []int{n, right}})
	}
	return n
}

func (k *maker) prim(depth int) int {
	n := k.wrapped(func() int { return k.atom(depth) })
	for k.r.Intn(4) == 0 {
		n = k.field(n)
	}
	return n
}

func (k *maker) atom(depth int) int {
	if depth > 0 {
		switch k.r.Intn(6) {
		case 0:
			return k.record(api.ERec, depth, k.expr)
		case 1, 2:
			return k.call(depth)
		case 3:
			k.say("(")
			n := k.expr(depth - 1)
			k.say("as")
			t := k.aType(depth - 1)
			k.say(")")
			return k.add(api.Node{Kind: api.EAs, L: []int{n, t}})
		case 4:
			k.say("(") // not redundant: what is inside is no prim
			n := k.test()
			k.say(")")
			return n
		}
	}
	switch k.r.Intn(4) {
	case 0:
		n := k.r.Intn(3) * k.r.Intn(1<<30)
		k.say(strconv.Itoa(n))
		return k.add(api.Node{Kind: api.EInt, Num: n})
	case 1:
		tag := k.tag()
		k.say("'" + tag)
		return k.add(api.Node{Kind: api.ETag, Name: tag})
	case 2:
		kind := api.ETrue + k.r.Intn(3)
		k.say(map[int]string{api.ETrue: "true", api.EFalse: "false", api.ENull: "null"}[kind])
		return k.add(api.Node{Kind: kind})
	}
	return k.variable()
}

func (k *maker) call(depth int) int {
	n := api.Node{Kind: api.ECall, Name: k.name()}
	if k.r.Intn(3) == 0 {
		n.Mod = k.name()
		k.say(n.Mod, "::")
	}
	k.say(n.Name)
	if k.r.Intn(3) == 0 {
		n.Num = 1 + k.r.Intn(3)
		k.say("[")
		n.L = k.separated(n.Num, ",", func(int) int { return k.aType(depth - 1) })
		k.say("]")
	}
	k.say("(")
	args := k.separated(k.r.Intn(4), ",", func(int) int { return k.expr(depth - 1) })
	k.say(")")
	n.L = append(n.L, args...)
	return k.add(n)
}

// vars makes parameters, or type parameters.
func (k *maker) vars(names []string, sign string) (l []api.Var) {
	types := k.separated(len(names), ",", func(i int) int {
		k.say(names[i], sign)
		return k.aType(2)
	})
	for i, name := range names {
		l = append(l, api.Var{Name: name, Type: types[i]})
	}
	return l
}

func (k *maker) module() {
	k.m.Name = k.name()
	k.say("module", k.m.Name)
	k.m.Imports = k.distinct(2, "a", "b", "m", "other")
	for _, name := range k.m.Imports {
		k.say("import", name)
	}
	for range k.r.Intn(3) {
		d := api.Decl{Name: k.typeName()}
		k.say("type", d.Name, "=")
		d.Type = k.aType(3)
		k.m.Types = append(k.m.Types, d)
	}
	for range k.r.Intn(3) {
		f := api.Fn{Name: k.name()}
		k.say("fn", f.Name)
		if k.r.Intn(2) == 0 {
			k.say("[")
			names := append(k.distinct(2, "A", "B", "C"), "D")
			f.Vars = k.vars(names, "<:")
			k.say("]")
		}
		k.say("(")
		f.Params = k.vars(k.distinct(3, "x", "y", "z", "a"), ":")
		k.say(")", ":")
		f.Ret = k.aType(3)
		k.say("=")
		f.Body = k.expr(4)
		k.m.Fns = append(k.m.Fns, f)
	}
}

// apart are the tokens with as few blanks between them as may be, or with more.
func apart(r *rand.Rand, words []string) string {
	gaps := []string{" ", "\n", "  ", "# why\n", " #\n\n"}
	var b strings.Builder
	touch := r.Intn(2) == 0
	for i, w := range words {
		if i == 0 || !touches(words[i-1], w) || !touch {
			b.WriteString(gaps[r.Intn(len(gaps))])
		}
		b.WriteString(w)
	}
	return b.String() + strings.Repeat(" # the end", r.Intn(2))
}

// touches tells whether two tokens may stand beside each other and still be two.
func touches(a, b string) bool {
	l, _, e := lex.Words(a + b)
	return e == api.OK && len(l) == 3 && l[1].At == len(a)
}

// someModules calls with many random modules.
func someModules(seed int64, n int, call func(k *maker)) {
	r := rand.New(rand.NewSource(seed))
	for range n {
		k := &maker{r: r}
		k.module()
		call(k)
	}
}

func TestP3_1_Random(t *testing.T) {
	nodes, kinds := 0, make([]int, 25)
	someModules(1, 3000, func(k *maker) {
		s := apart(k.r, k.words)
		m := parsed(t, s)
		if !tree.Same(m, k.m) {
			t.Fatalf("%s: %+v; want %+v", s, m, k.m)
		}
		nodes += len(m.Nodes)
		for kind, n := range tree.Count(m) {
			kinds[kind] += n
		}
	})
	for kind, name := range kindNames {
		if name != "" && kinds[kind] < 500 {
			t.Errorf("only %d of %s in %d nodes", kinds[kind], name, nodes)
		}
	}
}

// roots are the nodes of declarations.
func roots(m api.Module) (l []int) {
	for _, d := range m.Types {
		l = append(l, d.Type)
	}
	for _, f := range m.Fns {
		for _, v := range slices.Concat(f.Vars, f.Params) {
			l = append(l, v.Type)
		}
		l = append(l, f.Ret, f.Body)
	}
	return l
}

func TestP3_4(t *testing.T) {
	someModules(4, 1000, func(k *maker) {
		s := strings.Join(k.words, " ")
		m := parsed(t, s)
		parents := make([]int, len(m.Nodes))
		for i, n := range m.Nodes {
			for _, c := range n.L {
				if c < 0 || c >= i {
					t.Fatalf("%s: node %d has the child %d", s, i, c)
				}
				parents[c]++
			}
		}
		for _, c := range roots(m) {
			parents[c]++
		}
		for i, n := range parents {
			if n != 1 {
				t.Fatalf("%s: node %d is there %d times", s, i, n)
			}
		}
	})
}

func TestP3_5(t *testing.T) {
	someModules(5, 1000, func(k *maker) {
		var plain []string
		for i, w := range k.words {
			if !k.extra[i] {
				plain = append(plain, w)
			}
		}
		m := parsed(t, strings.Join(plain, " "))
		for _, s := range []string{apart(k.r, plain), apart(k.r, plain), apart(k.r, k.words), strings.Join(k.words, "\n#\n")} {
			if !tree.Same(parsed(t, s), m) {
				t.Fatalf("%s differs from %s", s, strings.Join(plain, " "))
			}
		}
	})
}

func TestP3_6(t *testing.T) {
	cut, still := 0, 0
	someModules(6, 600, func(k *maker) {
		s := strings.Join(k.words, " ")
		if len(s) > 500 {
			return
		}
		whole := parsed(t, s)
		words, _, _ := lex.Words(s)
		for at := range words[len(words)-2].At + 1 {
			cut++
			m, errAt, e := tree.Parse(s[:at])
			if e == api.OK {
				still++
				if len(m.Imports) > len(whole.Imports) || len(m.Types) > len(whole.Types) || len(m.Fns) > len(whole.Fns) {
					t.Fatalf("%s has more declarations than %s", s[:at], s)
				}
				continue
			}
			if first := cutToken(words, at); errAt < first {
				t.Fatalf("%s, cut from %s: error %d at %d, ahead of %d", s[:at], s, e, errAt, first)
			}
		}
	})
	if still < 100 || cut-still < 1000 {
		t.Errorf("%d cuts, %d of them modules", cut, still)
	}
}

// cutToken is where the token begins that a cut goes through, which may make another one of it; at, if the cut goes through none.
func cutToken(words []api.Word, at int) int {
	for _, w := range words {
		if w.At < at && at < w.At+len(lex.Join([]api.Word{w})) {
			return w.At
		}
	}
	return at
}
