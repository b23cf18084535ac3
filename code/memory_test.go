package code_test

import (
	"bytes"
	"fmt"
	"slices"
	"strings"
	"testing"

	"armillary/api"
	"armillary/cert"
	"armillary/code"
)

// roomy returns a copy of a list with two marked elements in the room behind it.
func roomy[T any](l []T, mark T) []T {
	c := append(append(make([]T, 0, len(l)+2), l...), mark, mark)
	return c[:len(l)]
}

// room returns a certificate with marked room behind each list.
func room(c api.Cert) api.Cert {
	c = cert.Copy(c)
	c.Graph = roomy(c.Graph, tag("room"))
	for i := range c.Graph {
		c.Graph[i].Keys, c.Graph[i].L = roomy(c.Graph[i].Keys, "room"), roomy(c.Graph[i].L, -7)
	}
	c.Args = roomy(c.Args, arg(-7, -7))
	for i := range c.Args {
		c.Args[i].Types = roomy(c.Args[i].Types, -7)
	}
	c.Facts = roomy(c.Facts, of(-7, -7, -7))
	for i := range c.Facts {
		c.Facts[i].Why = roomy(c.Facts[i].Why, -7)
	}
	c.Types, c.Uses, c.Sums = roomy(c.Types, -7), roomy(c.Uses, use(-7, -7, -7)), roomy(c.Sums, sum("room", -7))
	return c
}

// whole writes a certificate with the room behind each list.
func whole(c api.Cert) string {
	var s []string
	for _, n := range c.Graph[:cap(c.Graph)] {
		s = append(s, fmt.Sprintln(n.Kind, n.Name, n.Num, n.Keys[:cap(n.Keys)], n.L[:cap(n.L)]))
	}
	for _, a := range c.Args[:cap(c.Args)] {
		s = append(s, fmt.Sprintln(a.Node, a.Types[:cap(a.Types)]))
	}
	for _, f := range c.Facts[:cap(c.Facts)] {
		s = append(s, fmt.Sprintln(f.A, f.B, f.Why[:cap(f.Why)]))
	}
	return c.Module + strings.Join(s, "") + fmt.Sprint(c.Types[:cap(c.Types)], c.Uses[:cap(c.Uses)], c.Sums[:cap(c.Sums)])
}

// numbers are all lists of numbers of a certificate.
func numbers(c api.Cert) (l [][]int) {
	l = append(l, c.Types)
	for _, n := range c.Graph {
		l = append(l, n.L)
	}
	for _, a := range c.Args {
		l = append(l, a.Types)
	}
	for _, f := range c.Facts {
		l = append(l, f.Why)
	}
	return l
}

func fill[T any](l []T, x T) {
	for i := range l {
		l[i] = x
	}
}

// grow writes into the room behind each list.
func grow(c api.Cert) {
	for _, l := range numbers(c) {
		fill(l[len(l):cap(l)], -9)
	}
	for _, n := range c.Graph {
		fill(n.Keys[len(n.Keys):cap(n.Keys)], "grown")
	}
	fill(c.Graph[len(c.Graph):cap(c.Graph)], plain(-9))
	fill(c.Args[len(c.Args):cap(c.Args)], arg(-9))
	fill(c.Facts[len(c.Facts):cap(c.Facts)], of(-9, -9))
	fill(c.Uses[len(c.Uses):cap(c.Uses)], use(-9, -9, -9))
	fill(c.Sums[len(c.Sums):cap(c.Sums)], sum("grown", -9))
}

// spoil writes other things into all lists of a certificate.
func spoil(c api.Cert) {
	for _, l := range numbers(c) {
		fill(l, -5)
	}
	for _, n := range c.Graph {
		fill(n.Keys, "spoiled")
	}
	fill(c.Graph, plain(-5))
	fill(c.Args, arg(-5))
	fill(c.Facts, of(-5, -5))
	fill(c.Uses, use(-5, -5, -5))
	fill(c.Sums, sum("spoiled", -5))
}

func TestP14_4_ArgumentsOfBytes(t *testing.T) {
	l := []api.Cert{nothing(), oneInt(), rich(), {}}
	for _, change := range append(wrong(), tooLong()...) {
		c := rich()
		change(&c)
		l = append(l, c)
	}
	for i, c := range l {
		c = room(c)
		before := whole(c)
		code.Bytes(c)
		if got := whole(c); got != before {
			t.Errorf("certificate %d: changed to %s", i, got)
		}
	}
}

func TestP14_4_ArgumentsOfParse(t *testing.T) {
	good := contents(rich())
	l := [][]byte{nil, encoded(nothing()), encoded(rich()), make([]byte, 8), sealed("x"), sealed(body(good[:]...) + "x")}
	for k := range good {
		bad := good
		bad[k] = "\x80\x00"
		l = append(l, sealed(body(bad[:]...)), sealed(body(good[:k]...)))
	}
	for i, b := range l {
		all := append(slices.Clone(b), bytes.Repeat([]byte{0xEE}, 40)...)
		before := slices.Clone(all)
		code.Parse(all[:len(b)])
		code.Sections(all[:len(b)])
		if !bytes.Equal(all, before) {
			t.Errorf("bytes %d: changed to % X", i, all)
		}
	}
}

func TestP14_4_ResultsOfBytes(t *testing.T) {
	c := rich()
	b, _ := code.Bytes(c)
	want := string(b)
	other, _ := code.Bytes(c)
	fill(other[:cap(other)], 0xEE)
	spoil(c)
	if string(b) != want {
		t.Errorf("% X, then % X", want, b)
	}
	c = room(rich())
	before := whole(c)
	b, _ = code.Bytes(c)
	fill(b[:cap(b)], 0xEE)
	if got := whole(c); got != before {
		t.Errorf("%s, then %s", before, got)
	}
	if got := toldBytes(code.Bytes(c)); got != want {
		t.Errorf("% X, then % X", want, got)
	}
}

func TestP14_4_ResultsOfParse(t *testing.T) {
	b := encoded(rich())
	want := told(rich(), api.OK)
	c, _ := code.Parse(b)
	other, _ := code.Parse(b)
	fill(b[:cap(b)], 'x')
	spoil(other)
	if got := told(c, api.OK); got != want {
		t.Errorf("%s, then %s", want, got)
	}
	b = encoded(rich())
	whole := string(b[:cap(b)])
	c, _ = code.Parse(b)
	grow(c)
	spoil(c)
	if string(b[:cap(b)]) != whole {
		t.Error("the bytes change with the certificate")
	}
	if got := told(code.Parse(b)); got != want {
		t.Errorf("%s, then %s", want, got)
	}
}

func TestP14_4_ListsAreApart(t *testing.T) {
	c, _ := code.Parse(encoded(rich()))
	want := told(rich(), api.OK)
	grow(c)
	if got := told(c, api.OK); got != want {
		t.Errorf("%s, then %s", want, got)
	}
	all := numbers(c)
	for i, l := range all {
		for k := range l {
			l[k]--
			others := fmt.Sprint(all[:i], all[i+1:])
			l[k]++
			if others != fmt.Sprint(all[:i], all[i+1:]) {
				t.Errorf("list %d is shared", i)
			}
		}
	}
}

func TestP14_4_ResultsOfSections(t *testing.T) {
	b := encoded(rich())
	l, _ := code.Sections(b)
	other, _ := code.Sections(b)
	fill(other[:cap(other)], -5)
	fill(b[:cap(b)], 'x')
	if got := fmt.Sprint(l); got != "[7 39 8 12 40 15 18]" {
		t.Error(got)
	}
	if got := toldSizes(code.Sections(encoded(rich()))); got != "[7 39 8 12 40 15 18]" {
		t.Error(got)
	}
}
