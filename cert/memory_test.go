package cert_test

import (
	"fmt"
	"slices"
	"strings"
	"testing"

	"armillary/api"
	"armillary/cert"
	"armillary/fact"
	"armillary/graph"
)

func roomy[T any](l []T, mark T) []T {
	c := append(append(make([]T, 0, len(l)+2), l...), mark, mark)
	return c[:len(l)]
}

// room returns a draft with marked room behind each list.
func room(d cert.Draft) cert.Draft {
	c := roomOfCert(api.Cert{Module: d.Module, Graph: d.Graph, Types: d.Types, Args: d.Args, Sums: d.Sums})
	return cert.Draft{Module: c.Module, Graph: c.Graph, Types: c.Types, Args: c.Args, Needs: roomy(d.Needs, need(-7, -7, -7, -7)), Sums: c.Sums}
}

func roomOfCert(c api.Cert) api.Cert {
	c.Graph = roomy(graph.Copy(c.Graph), tag("room"))
	for i := range c.Graph {
		c.Graph[i].Keys, c.Graph[i].L = roomy(c.Graph[i].Keys, "room"), roomy(c.Graph[i].L, -7)
	}
	c.Args = roomy(c.Args, arg(-7, -7))
	for i := range c.Args {
		c.Args[i].Types = roomy(c.Args[i].Types, -7)
	}
	c.Facts = roomy(fact.Copy(c.Facts), of(-7, -7, -7))
	for i := range c.Facts {
		c.Facts[i].Why = roomy(c.Facts[i].Why, -7)
	}
	c.Types, c.Uses, c.Sums = roomy(c.Types, -7), roomy(c.Uses, use(-7, -7, -7)), roomy(c.Sums, sum("room", -7))
	return c
}

// whole writes a certificate with the room behind each list.
func whole(c api.Cert) string {
	var s []string
	for _, n := range c.Graph[:cap(c.Graph)] {
		s = append(s, fmt.Sprintln(n.Kind, n.Name, n.Num, n.Keys[:cap(n.Keys)], n.L[:cap(n.L)]))
	}
	for _, a := range c.Args[:cap(c.Args)] {
		s = append(s, fmt.Sprintln(a.Node, a.Types[:cap(a.Types)]))
	}
	for _, f := range c.Facts[:cap(c.Facts)] {
		s = append(s, fmt.Sprintln(f.A, f.B, f.Why[:cap(f.Why)]))
	}
	return c.Module + strings.Join(s, "") + fmt.Sprint(c.Types[:cap(c.Types)], c.Uses[:cap(c.Uses)], c.Sums[:cap(c.Sums)])
}

func wholeDraft(d cert.Draft) string {
	return whole(api.Cert{Module: d.Module, Graph: d.Graph, Types: d.Types, Args: d.Args, Sums: d.Sums}) + fmt.Sprint(d.Needs[:cap(d.Needs)])
}

// drafts are some: valid ones, and others.
func drafts() []cert.Draft {
	l := []cert.Draft{chapter(), rich(), {}, {Module: "m"}}
	changes := []func(d *cert.Draft){
		func(d *cert.Draft) { d.Module = "" },
		func(d *cert.Draft) { d.Graph[3].Keys = []string{"b", "a"} },
		func(d *cert.Draft) { d.Types[1] = 99 },
		func(d *cert.Draft) { d.Args[0], d.Args[1] = d.Args[1], d.Args[0] },
		func(d *cert.Draft) { d.Needs[0], d.Needs[1] = d.Needs[1], d.Needs[0] },
		func(d *cert.Draft) { d.Needs[2].A = 1 },
		func(d *cert.Draft) { d.Sums[0], d.Sums[2] = d.Sums[2], d.Sums[0] },
		func(d *cert.Draft) { d.Types = slices.Repeat(d.Types, 600) },
	}
	for _, change := range changes {
		d := rich()
		change(&d)
		l = append(l, d)
	}
	return l
}

func TestP13_4_ArgumentsAreOnlyRead(t *testing.T) {
	for i, d := range drafts() {
		d = room(d)
		before := wholeDraft(d)
		c, _ := cert.Of(d)
		if got := wholeDraft(d); got != before {
			t.Errorf("draft %d: changed to %s", i, got)
		}
		for k, c := range []api.Cert{c, {Module: d.Module, Graph: d.Graph, Types: d.Types, Args: d.Args, Sums: d.Sums}, odd()} {
			c = roomOfCert(c)
			before := whole(c)
			cert.Check(c)
			cert.Again(c)
			cert.Copy(c)
			cert.Same(c, cert.Copy(c))
			cert.Same(odd(), c)
			for n := range 10 {
				cert.Type(c, n)
				cert.Args(c, n)
				cert.Fact(c, n, n)
			}
			cert.Sum(c, "b")
			if got := whole(c); got != before {
				t.Errorf("draft %d: certificate %d: changed to %s", i, k, got)
			}
		}
	}
}

// numbers are all lists of numbers of a certificate, each with what it is of.
func numbers(c api.Cert) (l [][]int) {
	l = append(l, c.Types)
	for _, n := range c.Graph {
		l = append(l, n.L)
	}
	for _, a := range c.Args {
		l = append(l, a.Types)
	}
	for _, f := range c.Facts {
		l = append(l, f.Why)
	}
	return l
}

// grow writes into the room behind each list.
func grow(c api.Cert) {
	for _, l := range numbers(c) {
		fill(l[len(l):cap(l)], -9)
	}
	for _, n := range c.Graph {
		fill(n.Keys[len(n.Keys):cap(n.Keys)], "grown")
	}
	fill(c.Graph[len(c.Graph):cap(c.Graph)], plain(-9))
	fill(c.Args[len(c.Args):cap(c.Args)], arg(-9))
	fill(c.Facts[len(c.Facts):cap(c.Facts)], of(-9, -9))
	fill(c.Uses[len(c.Uses):cap(c.Uses)], use(-9, -9, -9))
	fill(c.Sums[len(c.Sums):cap(c.Sums)], sum("grown", -9))
}

func fill[T any](l []T, x T) {
	for i := range l {
		l[i] = x
	}
}

// spoil writes other things into all lists of a certificate.
func spoil(c api.Cert) {
	for _, l := range numbers(c) {
		fill(l, -5)
	}
	for _, n := range c.Graph {
		fill(n.Keys, "spoiled")
	}
	fill(c.Graph, plain(-5))
	fill(c.Args, arg(-5))
	fill(c.Facts, of(-5, -5))
	fill(c.Uses, use(-5, -5, -5))
	fill(c.Sums, sum("spoiled", -5))
}

func spoilDraft(d cert.Draft) {
	spoil(api.Cert{Graph: d.Graph, Types: d.Types, Args: d.Args, Sums: d.Sums})
	fill(d.Needs, need(-5, -5, -5, -5))
}

// apart tells of lists of one certificate that share memory.
func apart(t *testing.T, what string, c api.Cert) {
	t.Helper()
	before := written(c)
	grow(c)
	if got := written(c); got != before {
		t.Errorf("%s: %s, then %s", what, before, got)
	}
	all := numbers(c)
	for i, l := range all {
		for k := range l {
			l[k]--
			others := fmt.Sprint(all[:i], all[i+1:])
			l[k]++
			if others != fmt.Sprint(all[:i], all[i+1:]) {
				t.Errorf("%s: list %d is shared", what, i)
			}
		}
	}
}

func TestP13_4_ResultsAreNew(t *testing.T) {
	d := rich()
	c := made(t, d)
	want := written(c)
	apart(t, "Of", c)
	spoilDraft(d)
	if got := written(c); got != want {
		t.Errorf("Of: %s, then %s", want, got)
	}
	a, _ := cert.Again(c)
	b := cert.Copy(c)
	for i, of := range []api.Cert{a, b} {
		apart(t, fmt.Sprint(i), of)
	}
	l := cert.Args(c, 3)
	spoil(c)
	if written(a) != want || written(b) != want || listed(l) != "2 5 2" {
		t.Errorf("%s, then %s and %s and %v", want, written(a), written(b), l)
	}
	fill(l, -5)
	c = made(t, rich())
	fill(cert.Args(c, 3), -5)
	spoil(cert.Copy(c))
	again, _ := cert.Again(c)
	spoil(again)
	if got := written(c); got != want {
		t.Errorf("%s, then %s", want, got)
	}
	d = rich()
	spoil(made(t, d))
	if got := told(cert.Of(d)); got != want {
		t.Errorf("%s, then %s", want, got)
	}
}

// The room behind a list that is returned is nobody's.
func TestP13_4_RoomOfArgs(t *testing.T) {
	c := roomOfCert(made(t, rich()))
	before := whole(c)
	for node := range 8 {
		l := cert.Args(c, node)
		fill(l[:cap(l)], -5)
	}
	d := cert.Copy(c)
	grow(d)
	spoil(d)
	if got := whole(c); got != before {
		t.Errorf("%s, then %s", before, got)
	}
}
