package code_test

import (
	"bytes"
	"fmt"
	"math/rand"
	"slices"
	"testing"

	"armillary/api"
	"armillary/cert"
	"armillary/code"
	"armillary/graph"
)

// A maker makes certificates and bytes at random.
type maker struct{ *rand.Rand }

// graph makes a valid graph.
func (r maker) graph(size int) []api.GNode {
	g := make([]api.GNode, size)
	var l []int // all but the unions
	for n := range g {
		if n > 1 && r.Intn(4) == 0 {
			g[n] = plain(api.TUnion)
		} else {
			g[n] = r.node(size)
			l = append(l, n)
		}
	}
	for n := range g {
		if g[n].Kind == api.TUnion {
			r.Shuffle(len(l), func(i, k int) { l[i], l[k] = l[k], l[i] })
			g[n].L = slices.Clone(l[:2+r.Intn(len(l)-1)])
		}
	}
	return g
}

func (r maker) node(size int) api.GNode {
	at := func() int { return r.Intn(size) }
	switch r.Intn(9) {
	case 0, 1:
		return plain(1 + r.Intn(4))
	case 2, 3:
		return tag([]string{"a", "b1", "t_34567890123456"}[r.Intn(3)])
	case 4:
		return variable(r.Intn(16), at())
	case 5:
		return record("a b_ c", at(), at(), at())
	case 6:
		return record("")
	}
	return record("key", at())
}

// cert makes a valid certificate; its facts need not hold.
func (r maker) cert() api.Cert {
	size := 1 + r.Intn(9)
	if r.Intn(4) == 0 {
		size = 2 + r.Intn(70)
	}
	c := api.Cert{Module: []string{"a", "m", "m234567890123456"}[r.Intn(3)], Graph: r.graph(size)}
	facts := []int{0, 1, 1 + r.Intn(5), 1 + r.Intn(90)}[r.Intn(4)]
	for range facts {
		c.Facts = append(c.Facts, r.fact(c.Graph, facts))
	}
	for i := range []int{0, 1, r.Intn(9), r.Intn(150)}[r.Intn(4)] {
		c.Types = append(c.Types, r.Intn(size+1)-1)
		if r.Intn(3) == 0 {
			a := arg(i)
			for range 1 + r.Intn(16) {
				a.Types = append(a.Types, r.Intn(size))
			}
			c.Args = append(c.Args, a)
		}
		for part := r.Intn(200); part < 256 && facts > 0 && r.Intn(2) == 0; part += 1 + r.Intn(100) {
			c.Uses = append(c.Uses, use(i, part, r.Intn(facts)))
		}
	}
	for _, s := range []string{"a", "a_", "b", "s234567890123456"} {
		if r.Intn(3) == 0 {
			c.Sums = append(c.Sums, sum(s, int(r.Uint32()>>r.Intn(32))))
		}
	}
	return c
}

// fact makes a fact that is well-formed, beside so many.
func (r maker) fact(g []api.GNode, facts int) api.Fact {
	f := of(r.Intn(len(g)), r.Intn(len(g)))
	refer := func() { f.Why = append(f.Why, r.Intn(facts)) }
	a := g[f.A]
	if a.Kind == api.TUnion {
		for range a.L {
			refer()
		}
		return f
	}
	if a.Kind == api.TVar && r.Intn(2) == 0 {
		f.Why = []int{-1}
		refer()
		return f
	}
	members := graph.Members(g, f.B)
	k := r.Intn(len(members))
	t := g[members[k]]
	f.Why = []int{k}
	switch {
	case a.Kind == api.TRec && t.Kind == api.TRec:
		for range t.Keys {
			refer()
		}
	case a.Kind == api.TVar && t.Kind == api.TVar:
		refer()
	}
	return f
}

// atRandom calls a test for certificates, always the same ones.
func atRandom(t *testing.T, times int, test func(r maker, c api.Cert)) {
	r := maker{rand.New(rand.NewSource(14))}
	for i := range times {
		c := r.cert()
		if e := cert.Check(c); e != api.OK {
			t.Fatalf("certificate %d: error %d: %s", i, e, told(c, api.OK))
		}
		if test(r, c); t.Failed() {
			t.Fatalf("certificate %d: %s", i, told(c, api.OK))
		}
	}
}

// numberOf returns where some number of a certificate is.
func (r maker) numberOf(c *api.Cert) *int {
	switch k := r.Intn(6); {
	case k == 0 && len(c.Types) > 0:
		return &c.Types[r.Intn(len(c.Types))]
	case k == 1 && len(c.Args) > 0:
		a := &c.Args[r.Intn(len(c.Args))]
		return []*int{&a.Node, &a.Types[0]}[r.Intn(2)]
	case k == 2 && len(c.Facts) > 0:
		f := &c.Facts[r.Intn(len(c.Facts))]
		return []*int{&f.A, &f.B, &f.Why[0], &f.Why[len(f.Why)-1]}[r.Intn(4)]
	case k == 3 && len(c.Uses) > 0:
		u := &c.Uses[r.Intn(len(c.Uses))]
		return []*int{&u.Node, &u.Part, &u.Fact}[r.Intn(3)]
	case k == 4 && len(c.Sums) > 0:
		return &c.Sums[r.Intn(len(c.Sums))].Sum
	}
	n := &c.Graph[r.Intn(len(c.Graph))]
	if len(n.L) > 0 && r.Intn(2) == 0 {
		return &n.L[r.Intn(len(n.L))]
	}
	return &n.Num
}

// changed makes a certificate in which a number is another one; it may be none.
func (r maker) changed(c api.Cert) api.Cert {
	c = cert.Copy(c)
	n := r.numberOf(&c)
	*n = []int{0, 1, *n + 1, 127, 128, 255, 256, 300, 8001, 1 << 32, api.MaxNumber - 1}[r.Intn(11)]
	return c
}

// piece is a text that is put somewhere.
func (r maker) piece() string {
	if r.Intn(4) == 0 {
		return []string{num(8001), num(65537)}[r.Intn(2)]
	}
	return []string{"\x00", "\x01", "\x02", "\x06", "\x80", "\x80\x00", "\xFF", num(8000), num(65536), num(api.MaxNumber), rest7 + "\x10", num(r.Intn(300)), "\x01a", string([]byte{byte(r.Intn(256))})}[r.Intn(14)]
}

// mixed changes something of a text: a piece is put into it, or instead of as many bytes; some bytes are left out, or are twice.
func (r maker) mixed(s string) string {
	i := r.Intn(len(s) + 1)
	if r.Intn(3) == 0 {
		i = min(len(s), r.Intn(2)) // where it is told how much follows
	}
	k := min(len(s), i+r.Intn(4))
	p := r.piece()
	switch r.Intn(5) {
	case 0:
		return s[:i] + p + s[i:]
	case 1:
		return s[:i] + p + s[min(len(s), i+len(p)):]
	case 2:
		return s[:i] + s[k:]
	case 3:
		return s[:k] + s[i:]
	}
	return s[:i]
}

// bytes makes what may be an encoding, of what may be a certificate.
func (r maker) bytes(c api.Cert) []byte {
	l := contents(c)
	k := r.Intn(7)
	switch r.Intn(9) {
	case 0: // another number of elements
		l[k] = r.piece() + l[k][1:]
	case 1, 2, 3:
		for len(l[k]) < 2 && r.Intn(4) > 0 {
			k = r.Intn(7)
		}
		l[k] = r.mixed(l[k])
	case 4:
		return sealed(r.mixed(body(l[:]...)))
	case 5:
		return sealed(r.mixed(r.mixed(body(l[:]...))))
	case 6: // what is told of a section ahead of its content
		ahead := section(k+1, l[k])
		ahead = ahead[:len(ahead)-len(l[k])]
		all := body(l[:]...)
		return sealed(body(l[:k]...) + r.mixed(ahead) + all[len(body(l[:k]...))+len(ahead):])
	case 7:
		return []byte(r.mixed(string(encoded(c))))
	}
	return sealed(body(l[:]...))
}

// often tells of what was not seen often enough.
func often(t *testing.T, seen map[api.Errno]int, least int, all ...api.Errno) {
	t.Helper()
	for _, e := range all {
		if seen[e] < least {
			t.Errorf("error %d: %d times", e, seen[e])
		}
	}
}

func TestP14_1_AsDefined(t *testing.T) {
	seen := map[api.Errno]int{}
	atRandom(t, 3000, func(r maker, c api.Cert) {
		for range 3 {
			b, e := code.Bytes(c)
			if got, want := toldBytes(b, e), readBytes(c); got != want {
				t.Errorf("%s: %s, not %s", told(c, api.OK), head([]byte(got)), head([]byte(want)))
			}
			seen[e]++
			c = r.changed(c)
		}
	})
	often(t, seen, 2000, api.OK, api.ErrArg)
}

func TestP14_2_AsDefined(t *testing.T) {
	seen, sizes := map[api.Errno]int{}, map[api.Errno]int{}
	atRandom(t, 4000, func(r maker, c api.Cert) {
		for range 5 {
			b := r.bytes(c)
			_, e := code.Parse(b)
			_, f := code.Sections(b)
			judge(t, "bytes", b, readParse(b), readSizes(b))
			seen[e]++
			sizes[f]++
			c = cert.Copy(c)
			*r.numberOf(&c) = r.Intn(9)
		}
	})
	often(t, seen, 300, api.OK, api.ErrArg, api.ErrTrunc, api.ErrForm, api.ErrLimit, api.ErrHead, api.ErrSum, api.ErrPart)
	often(t, sizes, 300, api.OK, api.ErrTrunc, api.ErrHead, api.ErrSum, api.ErrPart)
	often(t, sizes, 60, api.ErrForm)
}

// Bytes that were never an encoding.
func TestP14_2_AnyBytes(t *testing.T) {
	r := maker{rand.New(rand.NewSource(2))}
	for range 20000 {
		b := make([]byte, r.Intn(60))
		for i := range b {
			b[i] = byte(r.Intn(256) >> r.Intn(8))
		}
		judge(t, "any bytes", b, readParse(b), readSizes(b))
		b = sealed(string(b))
		judge(t, "any bytes, sealed", b, readParse(b), readSizes(b))
	}
}

func TestP14_5_ThereAndBack(t *testing.T) {
	great, again := 0, 0
	atRandom(t, 3000, func(r maker, c api.Cert) {
		b, e := code.Bytes(c)
		if e != api.OK {
			t.Fatalf("error %d", e)
		}
		d, e := code.Parse(b)
		if e != api.OK || !cert.Same(c, d) {
			t.Errorf("%s, not %s", told(d, e), told(c, api.OK))
		}
		if len(b) > 800 {
			great++
		}
		// and what can be parsed has the encoding that it was parsed of
		for range 5 {
			b := r.bytes(c)
			d, e := code.Parse(b)
			if e != api.OK {
				continue
			}
			again++
			if got := toldBytes(code.Bytes(d)); got != string(b) {
				t.Errorf("% X, parsed from % X", got, b)
			}
		}
	})
	if great < 200 || again < 2000 {
		t.Errorf("%d great ones, %d times back", great, again)
	}
}

// noMore tests that bytes cannot be parsed.
func noMore(t *testing.T, what string, b []byte) {
	t.Helper()
	if c, e := code.Parse(b); e == api.OK || told(c, e) != failed(e) {
		t.Errorf("%s: %s", what, told(c, e))
	}
	if l, e := code.Sections(b); e == api.OK || len(l) > 0 {
		t.Errorf("%s: %s", what, toldSizes(l, e))
	}
}

func TestP14_6_CutOff(t *testing.T) {
	for _, c := range []api.Cert{nothing(), oneInt(), rich()} {
		b := encoded(c)
		for n := range b {
			noMore(t, fmt.Sprintf("%d bytes of %d", n, len(b)), b[:n])
		}
	}
	atRandom(t, 1000, func(r maker, c api.Cert) {
		b := encoded(c)
		for range 10 {
			n := r.Intn(len(b))
			noMore(t, fmt.Sprintf("%d bytes of %d", n, len(b)), b[:n])
		}
		// even if its checksum were right
		n := 4 + r.Intn(len(b)-8)
		noMore(t, "cut off and sealed", sealed(string(b[4:n])))
	})
}

// flip flips the bits of a pattern from a bit on, in each byte the least significant one first.
func flip(b []byte, at int, pattern uint32) []byte {
	c := bytes.Clone(b)
	for i := range 32 {
		if k := at + i; pattern>>i%2 == 1 && k < 8*len(c) {
			c[k/8] ^= 1 << (k % 8)
		}
	}
	return c
}

func TestP14_6_FlippedBits(t *testing.T) {
	r := maker{rand.New(rand.NewSource(6))}
	for _, c := range []api.Cert{nothing(), oneInt(), rich()} {
		b := encoded(c)
		for at := range 8 * len(b) {
			patterns := []uint32{1, 3, 5, 0xFF, 0xFFFFFFFF, 0x80000001, 0x04C11DB7, 0xEDB88321}
			for range 20 {
				patterns = append(patterns, r.Uint32()|1)
			}
			for _, p := range patterns {
				noMore(t, fmt.Sprintf("%X flipped at %d", p, at), flip(b, at, p))
			}
		}
	}
	atRandom(t, 1000, func(r maker, c api.Cert) {
		b := encoded(c)
		for range 10 {
			at, p := r.Intn(8*len(b)), r.Uint32()|1
			noMore(t, fmt.Sprintf("%X flipped at %d", p, at), flip(b, at, p))
		}
	})
}
