package cert_test

import (
	"fmt"
	"slices"
	"testing"

	"armillary/api"
	"armillary/cert"
)

// circle is so many records in a circle, the first of which is at a position.
func circle(at, n int) (g []api.GNode) {
	for i := range n {
		g = append(g, record("a", at+(i+1)%n))
	}
	return g
}

func upTo(n int) (l []int) {
	for i := range n {
		l = append(l, i)
	}
	return l
}

// numbered is a chain of so many types, no two of which are equal: the last one is a tag.
func numbered(n int) (g []api.GNode) {
	for i := range n - 1 {
		g = append(g, record("a", i+1))
	}
	return append(g, tag("end"))
}

// tags are so many types, no two of which are equal, and each of which is a subtype of itself alone.
func tags(n int) (g []api.GNode) {
	for i := range n {
		g = append(g, tag(fmt.Sprintf("t%04d", i)))
	}
	return g
}

// Everything that a certificate may have at most.
func TestP13_2_GreatCertificate(t *testing.T) {
	d := cert.Draft{Module: "great", Graph: numbered(2000)}
	for i := range 4000 {
		d.Types = append(d.Types, (i*7)%2000)
		var l []int
		for k := range 16 {
			l = append(l, (i+k*125)%2000)
		}
		d.Args = append(d.Args, arg(i, l...))
	}
	for i := range 8000 {
		k := (i * 3) % 2000
		d.Needs = append(d.Needs, need(i/2, i%2*255, k, k))
	}
	for i := range 16 {
		d.Sums = append(d.Sums, sum(fmt.Sprintf("m%02d", i), i<<28))
	}
	c := made(t, d)
	if len(c.Graph) != 2000 || len(c.Types) != 4000 || len(c.Args) != 4000 || len(c.Facts) != 2000 || len(c.Uses) != 8000 || len(c.Sums) != 16 {
		t.Fatalf("%d nodes, %d types, %d args, %d facts, %d uses, %d sums", len(c.Graph), len(c.Types), len(c.Args), len(c.Facts), len(c.Uses), len(c.Sums))
	}
	// the graph is as it was: the first root leads to all others, in their order
	for i, n := range c.Types {
		if n != d.Types[i] || !slices.Equal(c.Args[i].Types, d.Args[i].Types) || c.Args[i].Node != i {
			t.Fatalf("%d: %d, %v", i, n, c.Args[i])
		}
	}
	for i, u := range c.Uses {
		if f, n := c.Facts[u.Fact], d.Needs[i]; f.A != n.A || f.B != n.B || u.Node != n.Node || u.Part != n.Part || cert.Fact(c, n.Node, n.Part) != u.Fact {
			t.Fatalf("%v of %v: %v", u, n, f)
		}
	}
	if e := cert.Check(c); e != api.OK {
		t.Errorf("error %d", e)
	}
	if a, e := cert.Again(c); e != api.OK || !cert.Same(a, c) {
		t.Errorf("another one, error %d", e)
	}
	d.Needs = append(d.Needs, need(3999, 256, 0, 0))
	drafted(t, "8001 needs, the last one of no part", d, api.ErrLimit)
	d.Needs = d.Needs[1:]
	drafted(t, "8000 needs, the last one of no part", d, api.ErrArg)
	d.Needs[7999].Part = 255
	drafted(t, "8000 needs, the last one twice", d, api.ErrArg)
	d.Needs = d.Needs[:7999]
	drafted(t, "7999 needs", d, api.OK)
	d.Graph = append(d.Graph, tag("unused"))
	drafted(t, "2001 nodes", d, api.ErrLimit)
}

// Roots are all that a draft names; there may be more than those of which canon makes a graph at a time.
func TestP13_2_ManyRoots(t *testing.T) {
	g := tags(2000)
	for _, x := range []struct{ types, args, needs int }{{4000, 0, 0}, {4000, 1, 0}, {3999, 0, 1}, {4000, 0, 1}, {0, 4000, 0}, {2, 0, 2000}, {1, 0, 2001}, {0, 0, 8000}, {4000, 4000, 8000}} {
		d := cert.Draft{Module: "m", Graph: g, Types: slices.Repeat([]int{-1}, 4000)}
		// roots in another order than that of the graph
		next := 0
		root := func() int {
			next++
			return next * 1999 % 2000
		}
		for i := range x.types {
			d.Types[i] = root()
		}
		for i := range x.args {
			d.Args = append(d.Args, arg(i, root(), root(), root()))
		}
		for i := range x.needs {
			k := root()
			d.Needs = append(d.Needs, need(i/2, i%2, k, k))
		}
		c := made(t, d)
		want := min(2000, x.types+3*x.args+x.needs)
		if len(c.Graph) != want || len(c.Uses) != x.needs || len(c.Facts) != min(2000, x.needs) {
			t.Errorf("%v: %d nodes, %d facts, %d uses", x, len(c.Graph), len(c.Facts), len(c.Uses))
		}
		for i, n := range c.Graph {
			if n.Name != fmt.Sprintf("t%04d", (i+1)*1999%2000) {
				t.Fatalf("%v: node %d: %v", x, i, n)
			}
		}
		for i, n := range d.Types {
			if k := c.Types[i]; n < 0 && k != -1 || n >= 0 && c.Graph[k].Name != g[n].Name {
				t.Fatalf("%v: type %d: %d", x, i, k)
			}
		}
	}
}

// circles are two circles of records, no two of which are equal: each of the first one is a subtype of each of the second one, which makes n * m facts, and one of int.
func circles(n, m int) []api.GNode {
	g := append(circle(0, n), circle(n, m)...)
	end := n + m
	for i := range g {
		g[i] = record("a b", g[i].L[0], end)
	}
	g[0] = record("a b c", g[0].L[0], end, end)
	g[n] = record("a", g[n].L[0])
	return append(g, plain(api.TInt), plain(api.TNull))
}

func TestP13_2_ManyFacts(t *testing.T) {
	for _, x := range []struct {
		n, m  int
		other []api.Need
		want  string
	}{
		{421, 19, nil, "8000"}, {19, 421, nil, "8000"}, {125, 64, nil, "error 5"}, {89, 90, nil, "error 5"}, {127, 62, nil, "7875"}, {7, 9, nil, "64"},
		{421, 19, []api.Need{need(0, 1, 420, 439), need(0, 2, 440, 440)}, "8000"},
		{421, 19, []api.Need{need(0, 1, 441, 441)}, "error 5"},
		{421, 19, []api.Need{need(0, 1, 441, 441), need(0, 2, 441, 440)}, "error 160"},
		{421, 19, []api.Need{need(0, 1, 441, 441), need(0, 2, 441, 442)}, "error 2"},
		{421, 19, []api.Need{need(0, 1, 421, 0)}, "error 160"},
		{125, 64, []api.Need{need(0, 1, 125, 0)}, "error 160"},
	} {
		d := cert.Draft{Module: "m", Graph: circles(x.n, x.m), Types: []int{-1}, Needs: append([]api.Need{need(0, 0, 3, x.n+5)}, x.other...)}
		c, e := cert.Of(d)
		got := told(c, e)
		if e == api.OK {
			got = fmt.Sprint(len(c.Facts))
		}
		if got != x.want {
			t.Errorf("%d with %d, %v: %s, not %s", x.n, x.m, x.other, got, x.want)
		}
	}
}

// A certificate is valid whatever facts it has; made anew, it may need too many of them.
func TestP13_2_ManyFactsAgain(t *testing.T) {
	for _, x := range []struct {
		n, m int
		want string
	}{{19, 421, "8000"}, {64, 125, "error 5"}} {
		c := api.Cert{Module: "m", Graph: circles(x.n, x.m), Types: []int{0}, Facts: []api.Fact{of(0, x.n, 0, 0)}, Uses: []api.Use{use(0, 0, 0)}}
		if e := cert.Check(c); e != api.OK {
			t.Errorf("error %d", e)
		}
		c, e := cert.Again(c)
		got := told(c, e)
		if e == api.OK {
			got = fmt.Sprint(len(c.Facts))
		}
		if got != x.want {
			t.Errorf("%d with %d: %s, not %s", x.n, x.m, got, x.want)
		}
	}
}

// Great unions, as types and as ends of needs.
func TestP13_2_GreatUnions(t *testing.T) {
	g := tags(1998)
	back := upTo(1998)
	slices.Reverse(back)
	g = append(g, union(back...), union(upTo(1997)...))
	d := cert.Draft{Module: "m", Graph: g, Types: []int{1998, 5, 1999}, Needs: []api.Need{need(0, 0, 1999, 1998), need(1, 0, 5, 1999), need(1, 1, 1998, 1998)}}
	c := made(t, d)
	if len(c.Graph) != 2000 || !slices.Equal(c.Types, []int{0, 6, 1999}) || len(c.Facts) != 1998+2+1 || !slices.Equal(c.Graph[0].L, upTo(1999)[1:]) {
		t.Errorf("%d nodes, types %v, %d facts", len(c.Graph), c.Types, len(c.Facts))
	}
	d.Needs = append(d.Needs, need(1, 2, 1998, 1999))
	drafted(t, "a union of one more", d, api.ErrType)
}
