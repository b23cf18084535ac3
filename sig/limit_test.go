package sig_test

import (
	"fmt"
	"slices"
	"strings"
	"testing"

	"armillary/api"
	"armillary/canon"
	"armillary/sig"
)

// greatest is a module of as much as there may be: 64 types, 64 functions, 16 type parameters and parameters each.
func greatest() string {
	var b strings.Builder
	b.WriteString("module m")
	for i := range 64 {
		fmt.Fprintf(&b, " type T%d = {k%d: T%d, n: T%d}", i, i, (i+1)%64, i*i%64)
	}
	vars := strings.Join(inRow(16, "V"), " <: T63, ") + " <: T1"
	params := strings.Join(inRow(16, "x"), ": T62, ") + ": V7"
	for i := range 64 {
		fmt.Fprintf(&b, " fn f%d[%s](%s): T%d = 1", i, vars, params, i)
	}
	return b.String()
}

func TestP15_1_Greatest(t *testing.T) {
	s := of(t, greatest())
	if got := fmt.Sprint(len(s.Names), len(s.Types), len(s.Fns), len(s.Fns[63].Bounds), len(s.Fns[63].Params), len(s.Graph)); got != "64 64 64 16 16 65" {
		t.Error(got)
	}
	if got := fmt.Sprintf("%s %v %v %d %s %s", s.Fns[63].Name, s.Fns[63].Bounds, s.Fns[63].Params, s.Fns[63].Ret, show(s.Graph[64]), show(s.Graph[1])); got != "f63 [63 63 63 63 63 63 63 63 63 63 63 63 63 63 63 1] [62 62 62 62 62 62 62 62 62 62 62 62 62 62 62 64] 63 variable 7 [63] {k1: 2, n: 1}" {
		t.Error(got)
	}
	if e := sig.Check(s); e != api.OK {
		t.Errorf("error %d", e)
	}
	m := parse(t, greatest())[0]
	if len(m.Nodes) > api.MaxNodes || sig.Fn(s, "f63") != 63 || sig.Type(s, "T63") != 63 {
		t.Error(len(m.Nodes))
	}
}

// A graph of 2000 nodes, none of which is equal to another one.
func TestP15_1_GreatGraph(t *testing.T) {
	text := func(n int) string {
		var b strings.Builder
		fmt.Fprintf(&b, "module m type T = {t0: T")
		for i := range 15 {
			fmt.Fprintf(&b, ", t%d: %s", i+1, deep(i, 45))
		}
		b.WriteString("}")
		for i := range (n - 1 - 15*46) / 46 {
			fmt.Fprintf(&b, " type T%d = %s", i, deep(15+i, 45))
		}
		b.WriteString(" type E = " + deep(99, (n-1-15*46)%46-1))
		return b.String()
	}
	s := of(t, text(2000))
	// Of each of the deep types the end is another one, so all their nodes differ.
	if len(s.Graph) != 2000 || sig.Check(s) != api.OK {
		t.Errorf("%d nodes, error %d", len(s.Graph), sig.Check(s))
	}
	if got := parsed(bytesOf(s)); got != showAll(s) {
		t.Errorf("%.300s, not %.300s", got, showAll(s))
	}
	refused(t, program(t, text(2001)), "m", -1, api.ErrLimit)
}

// deep writes a tag in so many records.
func deep(tag, records int) string {
	return strings.Repeat("{a: ", records) + fmt.Sprint("'t", tag) + strings.Repeat("}", records)
}

// made returns the signature whose roots are nodes of a graph, 33 of them a function.
func made(t *testing.T, g []api.GNode, roots []int) api.Sig {
	t.Helper()
	h, at, e := canon.Of(g, roots)
	if e != api.OK {
		t.Fatalf("error %d", e)
	}
	s := api.Sig{Module: "m", Graph: h}
	for len(at) > 0 {
		l := slices.Clone(at[:min(33, len(at))])
		at = at[len(l):]
		last := len(l) - 1
		s.Fns = append(s.Fns, fn(fmt.Sprint("f", len(s.Fns)), l[:last/2], l[last/2:last], l[last]))
	}
	return s
}

// most are signatures of as much as there may be.
func most(t *testing.T) []api.Sig {
	t.Helper()
	many := rich()
	many.Fns = moreFns(&many, 64)
	many.Names, many.Types = moreTypes(&many, 64)
	// one union of all other nodes
	one := append(manyNodes(1999), union(upTo(1999)...))
	// and unions of almost all of them, so that there are more than 2^20 bytes
	unions := manyNodes(1000)
	for i := range 1000 {
		l := upTo(1000)
		unions = append(unions, union(slices.Delete(l, i, i+1)...))
	}
	return []api.Sig{
		many,
		of(t, greatest()),
		made(t, manyNodes(2000), upTo(2000)),
		made(t, one, []int{1999}),
		made(t, unions, upTo(2000)[1000:]),
	}
}

func TestP15_3_MoreThanACertificate(t *testing.T) {
	for i, s := range most(t) {
		b := bytesOf(s)
		if i == 4 && len(b) <= api.MaxBytes {
			t.Errorf("%d bytes", len(b))
		}
		if e := sig.Check(s); e != api.OK || b != encoded(s) {
			t.Errorf("%d: error %d, %s", i, e, head(b))
		}
	}
}

// No valid signature has more roots than canon takes, and more lists are not even looked at.
func TestP15_2_FarTooMany(t *testing.T) {
	many := slices.Repeat([]int{0}, 1<<20)
	for _, c := range []change{
		{"types", func(s *api.Sig) { s.Types = many }},
		{"names and types", func(s *api.Sig) { s.Names, s.Types = slices.Repeat(s.Names[:1], 1<<20), many }},
		{"functions", func(s *api.Sig) { s.Fns = slices.Repeat(s.Fns, 1<<18) }},
		{"bounds", func(s *api.Sig) { s.Fns[0].Bounds = many }},
		{"parameters", func(s *api.Sig) { s.Fns[2].Params = many }},
		{"nodes", func(s *api.Sig) { s.Graph = slices.Repeat(s.Graph, 1<<16) }},
	} {
		if e := sig.Check(changed(c)); e != api.ErrArg {
			t.Errorf("%s: error %d", c.what, e)
		}
		if got := bytesOf(changed(c)); got != failed(api.ErrArg) {
			t.Errorf("%s: %.100q", c.what, got)
		}
	}
}

// Great encodings that are read up to their end, and then are none.
func TestP15_3_GreatEncodings(t *testing.T) {
	zeros := strings.Repeat("\x00", 8000)
	for _, x := range []struct{ what, s string }{
		{"records of many keys", num(2000) + strings.Repeat("\x07\x00\x00"+num(800)+zeros[:800]+num(800)+zeros[:800], 2000)},
		{"unions of many", num(2000) + strings.Repeat("\x08\x00\x00\x00"+nums(upTo(1000)...), 2000)},
		{"tags of great names", num(100) + strings.Repeat("\x05\x00"+num(65536)+strings.Repeat("a", 65536)+"\x00\x00", 100)},
		{"records in a long circle", circle(2000)},
	} {
		if got := parsed("\x01m\x01\x01T\x01\x00\x00" + x.s); got != failed(api.ErrForm) {
			t.Errorf("%s: %.300s", x.what, got)
		}
	}
}

// circle writes records that are all equal: each one has the next one.
func circle(n int) string {
	var g []api.GNode
	for i := range n {
		g = append(g, record("a", (i+1)%n))
	}
	s := encoded(api.Sig{Graph: g})
	return s[4:]
}
