package print_test

import (
	"math/rand"
	"strconv"
	"strings"
	"testing"

	"armillary/api"
	"armillary/lex"
	"armillary/print"
	"armillary/tree"
)

// The levels of the grammar: a phrase of a level stands where its own or a higher one is asked for; where a lower one is, it needs parentheses.
const (
	atomic = iota // a part of a type, too
	prim
	sum
	whole // a union, too
)

// A phrase is a type or an expression, as some text, and as canonical text.
type phrase struct {
	text, canon string
	level       int
}

// A maker makes random modules.
type maker struct{ r *rand.Rand }

func (k maker) one(l ...string) string { return l[k.r.Intn(len(l))] }
func (k maker) name() string           { return k.one("a", "b", "x", "y1", "long_name_of_16b", "lets", "rec_") }
func (k maker) typeName() string       { return k.one("T", "Tree", "A", "Rec", "X9") }
func (k maker) tag() string            { return "'" + k.one("a", "let", "null", "t_1") }

// fit makes a phrase one of a level, by parentheses: in the canonical text if it needs them, in the other one sometimes without need.
func (k maker) fit(p phrase, level int) phrase {
	if p.level > level {
		p = phrase{"( " + p.text + " )", "(" + p.canon + ")", atomic}
	}
	for k.r.Intn(5) == 0 {
		p.text = "( " + p.text + " )"
	}
	p.level = level
	return p
}

// with makes a phrase of others: each @ in a pattern stands for the next one.
func with(pattern string, level int, l ...phrase) phrase {
	text, canon := strings.Builder{}, strings.Builder{}
	for i, s := range strings.Split(pattern, "@") {
		if i > 0 {
			text.WriteString(l[i-1].text)
			canon.WriteString(l[i-1].canon)
		}
		text.WriteString(s)
		canon.WriteString(s)
	}
	return phrase{text.String(), canon.String(), level}
}

// several are n phrases with a sign between them.
func several(n int, sign string, item func(i int) phrase) phrase {
	var l []phrase
	for i := range n {
		l = append(l, item(i))
	}
	return with(strings.TrimSuffix(strings.Repeat("@"+sign, n), sign), whole, l...)
}

// list makes up to most phrases of a level, at least one if need be.
func (k maker) list(least, most int, sign string, level int, item func() phrase) phrase {
	return several(least+k.r.Intn(most-least+1), sign, func(int) phrase { return k.fit(item(), level) })
}

// fields makes n names, each with a sign and a phrase.
func (k maker) fields(n int, sign string, names []string, value func() phrase) phrase {
	k.r.Shuffle(len(names), func(i, j int) { names[i], names[j] = names[j], names[i] })
	return several(n, ", ", func(i int) phrase { return with(names[i]+sign+"@", whole, k.fit(value(), whole)) })
}

func (k maker) keys() []string { return []string{"a", "b", "x", "y", "q1", "k_of_16_bytes_xx"} }

// aType makes a type; depth is how many more may lie in each other.
func (k maker) aType(depth int) phrase {
	inner := func() phrase { return k.aType(depth - 1) }
	switch n := k.r.Intn(10); {
	case depth > 0 && n < 3:
		return k.list(2, 4, " | ", atomic, inner)
	case depth > 0 && n < 5:
		return with("{@}", atomic, k.fields(k.r.Intn(4), ": ", k.keys(), inner))
	case n == 5:
		return with(k.tag(), atomic)
	case n == 6:
		return with(k.typeName(), atomic)
	case n == 7:
		return with(k.name()+"::"+k.typeName(), atomic)
	}
	return with(k.one("dyn", "null", "bool", "int", "{}"), atomic)
}

func (k maker) constant() phrase {
	return with(k.one(k.tag(), k.name(), "true", "false", "null", strconv.Itoa(k.r.Intn(1<<31)), "{}", k.name()+"()"), atomic)
}

// expr makes an expression; depth is how many more may lie in each other.
func (k maker) expr(depth int) phrase {
	inner := func() phrase { return k.expr(depth - 1) }
	if depth == 0 {
		return k.constant()
	}
	switch k.r.Intn(9) {
	case 0:
		return with("let "+k.name()+" = @ in @", whole, k.fit(inner(), whole), k.fit(inner(), whole))
	case 1:
		return with("if @ then @ else @", whole, k.fit(inner(), whole), k.fit(inner(), whole), k.fit(inner(), whole))
	case 2:
		x := k.fit(with(k.name(), atomic), prim)
		if k.r.Intn(2) == 0 {
			x = k.fit(with("@."+k.name(), prim, x), prim)
		}
		return with("@ is "+k.one("null", "bool", "int", "rec", k.tag()), whole, x)
	case 3, 4:
		return with("@ "+k.one("+", "<", "==")+" @", sum, k.fit(inner(), sum), k.fit(inner(), prim))
	case 5:
		return with("@."+k.name(), prim, k.fit(inner(), prim))
	case 6:
		return k.call(depth)
	case 7:
		return with("(@ as @)", atomic, k.fit(inner(), whole), k.fit(k.aType(depth-1), whole))
	}
	return with("{@}", atomic, k.fields(k.r.Intn(4), ": ", k.keys(), inner))
}

func (k maker) call(depth int) phrase {
	name := k.one("", k.name()+"::") + k.name()
	args := k.list(0, 3, ", ", whole, func() phrase { return k.expr(depth - 1) })
	if k.r.Intn(2) == 0 {
		return with(name+"(@)", atomic, args)
	}
	types := k.list(1, 3, ", ", whole, func() phrase { return k.aType(depth - 1) })
	return with(name+"[@](@)", atomic, types, args)
}

func (k maker) module() phrase {
	p := with("module "+k.name()+"\n", whole)
	for _, s := range []string{"a", "m", "other"}[k.r.Intn(4):] {
		p = with("@import "+s+"\n", whole, p)
	}
	for range k.r.Intn(3) {
		p = with("@type "+k.typeName()+" = @\n", whole, p, k.fit(k.aType(3), whole))
	}
	someType := func() phrase { return k.aType(2) }
	for range k.r.Intn(4) {
		vars := phrase{}
		if n := k.r.Intn(3); n > 0 {
			vars = with("[@]", whole, k.fields(n, " <: ", []string{"A", "B", "C"}, someType))
		}
		params := k.fields(k.r.Intn(4), ": ", []string{"x", "y", "z", "a"}, someType)
		p = with("@fn "+k.name()+"@(@): @ = @\n", whole, p, vars, params, k.fit(someType(), whole), k.fit(k.expr(4), whole))
	}
	return p
}

// apart are the tokens of a text with as few blanks between them as may be, or with more.
func apart(r *rand.Rand, s string) string {
	words, _, _ := lex.Words(s)
	gaps := []string{" ", "\n", "  ", "# why\n", " #\n\n"}
	touch := r.Intn(2) == 0
	var b strings.Builder
	for i, w := range words {
		if i > 0 && !(touch && touches(words[i-1], w)) {
			b.WriteString(gaps[r.Intn(len(gaps))])
		}
		b.WriteString(lex.Join([]api.Word{w}))
	}
	return b.String() + strings.Repeat(" # the end", r.Intn(2))
}

// touches tells whether two tokens may stand beside each other and still be two.
func touches(a, b api.Word) bool {
	first := lex.Join([]api.Word{a})
	l, _, e := lex.Words(first + lex.Join([]api.Word{b}))
	return e == api.OK && len(l) == 3 && l[1].At == len(first)
}

// someModules calls with many random modules.
func someModules(seed int64, n int, call func(k maker, p phrase)) {
	k := maker{rand.New(rand.NewSource(seed))}
	for range n {
		call(k, k.module())
	}
}

func TestP4_1_Random(t *testing.T) {
	kinds := make([]int, api.EAs+1)
	someModules(1, 2000, func(k maker, p phrase) {
		means(t, p.text, p.canon)
		m := parsed(t, p.text)
		for kind, n := range tree.Count(m) {
			kinds[kind] += n
		}
		lines := strings.SplitAfter(p.canon, "\n")[1+len(m.Imports)+len(m.Types):]
		for fn := range m.Fns {
			if s, e := print.Line(m, fn); s+"\n" != lines[fn] || e != api.OK {
				t.Errorf("the function %d of %s is %q, error %d", fn, brief(p.canon), s, e)
			}
		}
	})
	for kind, n := range kinds {
		if none := kind == 0 || kind == api.TVar || kind == 10; !none && n < 400 {
			t.Errorf("only %d of the kind %d", n, kind)
		}
	}
}

func TestP4_1_RandomNodes(t *testing.T) {
	someModules(2, 60, func(k maker, p phrase) {
		m := parsed(t, p.text)
		for n, x := range m.Nodes {
			s, e := print.Node(m, n)
			place := inType
			if x.Kind >= api.EInt {
				place = inBody
			}
			// By itself the node is the whole of a declaration.
			if text := tidied(t, place(s)); text != place(s) || e != api.OK {
				t.Errorf("the node %d of %s is %q, error %d", n, brief(p.text), s, e)
			}
			alone := parsed(t, place(s))
			if last := alone.Nodes[len(alone.Nodes)-1]; last.Kind != x.Kind || last.Name != x.Name || last.Mod != x.Mod || last.Num != x.Num || len(last.L) != len(x.L) {
				t.Errorf("the node %d of %s is %q, which is %+v", n, brief(p.text), s, last)
			}
		}
	})
}

func TestP4_4(t *testing.T) {
	someModules(4, 1500, func(k maker, p phrase) {
		m := parsed(t, p.text)
		if e := print.Check(m); e != api.OK {
			t.Errorf("%s: error %d", brief(p.text), e)
		}
		if !tree.Same(parsed(t, tidied(t, p.text)), m) {
			t.Errorf("%s: parsed as another module than its text", brief(p.text))
		}
	})
}

func TestP4_5(t *testing.T) {
	someModules(5, 1500, func(k maker, p phrase) {
		for _, s := range []string{p.canon, p.text, apart(k.r, p.text), apart(k.r, p.text), apart(k.r, p.canon)} {
			if text := tidied(t, s); text != p.canon {
				t.Errorf("%s: tidied to %s; want %s", brief(s), brief(text), brief(p.canon))
			}
		}
	})
}

// pairs are the places of the parentheses in a text that belong together.
func pairs(words []api.Word) (l [][2]int) {
	var open []int
	for i, w := range words {
		switch {
		case w.Kind == api.WordSign && w.Text == "(":
			open = append(open, i)
		case w.Kind == api.WordSign && w.Text == ")":
			l = append(l, [2]int{open[len(open)-1], i})
			open = open[:len(open)-1]
		}
	}
	return l
}

// needsAll tells that a text is parsed as another module, or not at all, without any one pair of its parentheses.
func needsAll(t *testing.T, s string) (tried int) {
	t.Helper()
	words, _, _ := lex.Words(s)
	m := parsed(t, s)
	for _, p := range pairs(words) {
		var rest []api.Word
		rest = append(rest, words[:p[0]]...)
		rest = append(rest, words[p[0]+1:p[1]]...)
		rest = append(rest, words[p[1]+1:]...)
		without := lex.Join(rest)
		if other, _, e := tree.Parse(without); e == api.OK && tree.Same(other, m) {
			t.Errorf("%s: the same as %s", brief(s), brief(without))
		}
		tried++
	}
	return tried
}

func TestP4_6(t *testing.T) {
	for _, l := range types {
		needsAll(t, tidied(t, inType(l[len(l)-1])))
	}
	for _, l := range exprs {
		needsAll(t, tidied(t, inBody(l[len(l)-1])))
	}
	tried := 0
	someModules(6, 600, func(k maker, p phrase) { tried += needsAll(t, tidied(t, p.text)) })
	if tried < 5000 {
		t.Errorf("only %d pairs", tried)
	}
}
