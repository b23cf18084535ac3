package graph_test

import (
	"fmt"
	"strings"
	"testing"

	"armillary/api"
	"armillary/graph"
)

// wide writes a type of so many nodes, none of them a union.
func wide(nodes int) string {
	if nodes == 1 {
		return "int"
	}
	left := nodes - 1
	parts := min(left, api.MaxParts)
	var fields []string
	for i := range parts {
		share := left / (parts - i)
		left -= share
		fields = append(fields, fmt.Sprintf("f%d: %s", i, wide(share)))
	}
	return "{" + strings.Join(fields, ", ") + "}"
}

// repeat writes an item so many times, numbered.
func repeat(times int, format string) string {
	var b strings.Builder
	for i := range times {
		b.WriteString(strings.ReplaceAll(format, "#", fmt.Sprint(i)))
	}
	return b.String()
}

// times writes an item so many times, with a sign between.
func times(n int, item, sign string) string {
	return strings.TrimSuffix(strings.Repeat(item+sign, n), sign)
}

func TestP6_2_Limit(t *testing.T) {
	const a, two = "module a type T = int type U = null type V = ", " type W = T | U type X = T | U"
	for _, c := range []struct {
		what  string
		texts []string
		nodes int // -1: too many
	}{
		{"a wide type", []string{"module m type T = " + wide(2000)}, 2000},
		{"a wider one", []string{"module m type T = " + wide(2001)}, -1},
		{"the widest one", []string{"module m type T = " + wide(3999)}, -1},
		{"room for two unions", []string{"module m type T = int type U = null type V = " + wide(1996) + two}, 2000},
		{"room for one union", []string{"module m type T = int type U = null type V = " + wide(1997) + two}, -1},
		{"room for no union", []string{"module m type T = int type U = null type V = " + wide(1998) + two}, -1},
		{"names, and unions of one", []string{"module m type T = int type V = " + wide(1999) + repeat(50, " type W# = T | (T | T)")}, 2000},
		{"a type in a body", []string{"module m type V = " + wide(1998) + " fn f(): int = (1 as int)"}, 2000},
		{"two types in a body", []string{"module m type V = " + wide(1998) + " fn f(): int = (1 as int | null)"}, -1},
		{"expressions", []string{"module m type V = " + wide(1999) + " fn f(): int = " + times(900, "1", " + ")}, 2000},
		{"a type parameter", []string{"module m type T = int type V = " + wide(1997) + " fn f[A <: T](x: A): A = x"}, 2000},
		{"more of it", []string{"module m type T = int type V = " + wide(1998) + " fn f[A <: T](x: A): A = x"}, -1},
		{"two modules", []string{"module m import a type V = " + wide(998) + " type W = a::T | a::U", a + wide(999)}, 2000},
		{"two of more", []string{"module m import a type V = " + wide(999) + " type W = a::T | a::U", a + wide(999)}, -1},
		{"more of another one", []string{"module m import a", a + wide(1999)}, -1},
		{"more of an import's import", []string{"module m import b", "module b import a", a + wide(1999)}, -1},
		{"other modules", []string{"module m import a type V = " + wide(998), a + wide(999), "module b import a import m type T = " + wide(1000), "module c type T = " + wide(3000)}, 1999},
	} {
		p := program(t, c.texts...)
		if c.nodes < 0 {
			refused(t, p, "m", -1, api.ErrLimit)
			continue
		}
		g := types(t, p, "m").Graph()
		if len(g) != c.nodes || graph.Check(g) != api.OK {
			t.Errorf("%s: %d nodes, error %d", c.what, len(g), graph.Check(g))
		}
	}
}

func TestP6_2_LimitOf16Modules(t *testing.T) {
	texts := []string{"module m" + repeat(15, " import m#") + " type T = " + wide(125)}
	for i := range 15 {
		texts = append(texts, fmt.Sprintf("module m%d type T = %s", i, wide(125)))
	}
	if g := types(t, program(t, texts...), "m").Graph(); len(g) != 2000 {
		t.Errorf("%d nodes", len(g))
	}
	texts[7] += " type U = int"
	refused(t, program(t, texts...), "m", -1, api.ErrLimit)
}

// A graph that would be too great may have loops, too: these are told.
func TestP6_2_LoopsAheadOfLimit(t *testing.T) {
	big := " type V = " + wide(2500)
	refused(t, program(t, "module m"+big+" type T = T"), "m", 2500, api.ErrLoop)
	refused(t, program(t, "module m"+big+" fn f[A <: A](): int = 1"), "m", 2500, api.ErrLoop)
	p := program(t, "module m import a type T = T", "module a"+big)
	refused(t, p, "m", 0, api.ErrLoop)
	refused(t, p, "a", -1, api.ErrLimit)
	refused(t, program(t, "module m import a"+big, "module a fn f[A <: A](): int = 1"), "m", -1, api.ErrLoop)
	refused(t, program(t, "module m import a import b"+big, "module a"+big, "module b type T = T"), "m", -1, api.ErrLoop)
}

// Unions of 1008 nodes each, so many that the graph is almost too great.
func TestP6_5_GreatUnions(t *testing.T) {
	const ints, groups, modules, unions = 63 * 16, 7, 13, 64
	var parts []string
	for i := range groups {
		var names []string
		for j := range 63 / groups {
			names = append(names, fmt.Sprintf("a::T%d", i*63/groups+j))
		}
		parts = append(parts, "("+strings.Join(names, " | ")+")")
	}
	texts := []string{
		"module a" + repeat(63, " type T# = "+times(16, "int", " | ")),
		"module b import a type W = " + strings.Join(parts, " | "),
		"module m" + repeat(modules, " import c#"),
	}
	for i := range modules {
		texts = append(texts, fmt.Sprintf("module c%d import b%s", i, repeat(unions, " type T# = "+times(16, "b::W", " | "))))
	}
	x := types(t, program(t, texts...), "m")
	g := x.Graph()
	if len(g) != ints+63+groups+1+modules*unions || graph.Check(g) != api.OK {
		t.Fatalf("%d nodes, error %d", len(g), graph.Check(g))
	}
	for _, node := range []int{16, 17*unions - 1} {
		if l := graph.Members(g, x.At("c12", node)); len(l) != ints || l[0] != 0 || l[ints-1] != ints-1 {
			t.Errorf("%d: %v", node, l)
		}
	}
}

// Names of names, in unions as deep as may be, through all modules.
func TestP6_6_LongestWay(t *testing.T) {
	const steps = 33
	texts := []string{fmt.Sprintf("module m0 type T%d = int", steps)}
	for i := 1; i < api.MaxModules; i++ {
		s := fmt.Sprintf("module m%d import m%d type T0 = m%d::T%d", i, i-1, i-1, steps)
		for j := 1; j <= steps; j++ {
			name := fmt.Sprintf("T%d", j-1)
			s += fmt.Sprintf(" type T%d = %s | %s%s", j, times(59, name, " | ("), name, strings.Repeat(")", 58))
		}
		texts = append(texts, s)
	}
	p := program(t, texts...)
	x := types(t, p, "m15")
	if got := show(x.Graph()); got != "int" {
		t.Errorf("%.200s", got)
	}
	for _, name := range x.Modules() {
		if got := spots(p, x, name); strings.Trim(got, " 0") != "" {
			t.Errorf("%s: %.200s", name, got)
		}
	}
	m := parse(t, texts[15])[0]
	loop := strings.Replace(texts[15], "T0 = m14::T33", "T0 = T33", 1)
	refused(t, program(t, append(texts[:15:15], loop)...), "m15", m.Types[0].Type, api.ErrLoop)
}
