package code_test

import (
	"fmt"
	"runtime"
	"slices"
	"strings"
	"testing"

	"armillary/api"
	"armillary/cert"
	"armillary/code"
)

// tags are so many types, no two of which are equal.
func tags(n int) (g []api.GNode) {
	for i := range n {
		g = append(g, tag(fmt.Sprintf("t%04d", i)))
	}
	return g
}

// sized returns a valid certificate whose encoding has so many bytes, about 2^20: facts of a great union, in which a number takes two bytes or one.
func sized(t *testing.T, n int) api.Cert {
	t.Helper()
	c := api.Cert{Module: "m", Graph: append(tags(1999), union(upTo(1999)...))}
	for range 300 {
		c.Facts = append(c.Facts, of(1999, 0, slices.Repeat([]int{200}, 1999)...))
	}
	more := len(encoded(c)) - n
	for _, f := range c.Facts {
		for i := range f.Why {
			if more > 0 {
				f.Why[i] = 100
				more--
			}
		}
	}
	if got := len(encoded(c)); got != n {
		t.Fatalf("%d bytes, not %d", got, n)
	}
	if e := cert.Check(c); e != api.OK {
		t.Fatalf("error %d", e)
	}
	return c
}

func TestP14_1_MostBytes(t *testing.T) {
	for n := 1<<20 - 3; n <= 1<<20; n++ {
		c := sized(t, n)
		want := encoded(c)
		b, e := code.Bytes(c)
		if e != api.OK || string(b) != string(want) {
			t.Errorf("%d bytes: %d, error %d", n, len(b), e)
		}
		l := contents(c)
		judge(t, fmt.Sprintf("%d bytes", n), want, told(c, api.OK), sizesOf(l[:]...))
	}
	for _, n := range []int{1, 2, 3, 4, 5, 8, 9, 100} {
		c := sized(t, 1<<20+n)
		if got := toldBytes(code.Bytes(c)); got != failed(api.ErrLimit) {
			t.Errorf("%d too many: %.50q", n, got)
		}
		fails(t, fmt.Sprintf("%d too many", n), encoded(c), api.ErrLimit)
		c.Module = "M"
		if got := toldBytes(code.Bytes(c)); got != failed(api.ErrArg) {
			t.Errorf("%d too many, of no certificate: %.50q", n, got)
		}
	}
}

// The limit is of all sections together, wherever the most bytes are.
func TestP14_1_BytesOfAllSections(t *testing.T) {
	args := func(c *api.Cert, n int) {
		c.Types = make([]int, n)
		for i := range n {
			c.Args = append(c.Args, arg(i, slices.Repeat([]int{199}, 16)...))
		}
	}
	unions := func(c *api.Cert, n int) {
		for range n {
			c.Graph = append(c.Graph, union(upTo(1000)[100:]...))
		}
	}
	facts := func(c *api.Cert, n int) {
		c.Graph[999] = union(upTo(900)...)
		c.Graph = append(c.Graph, c.Graph[998])
		for range n {
			c.Facts = append(c.Facts, of(999, 0, make([]int, 900)...))
		}
	}
	for _, x := range []struct {
		what   string
		change func(c *api.Cert)
	}{
		{"unions", func(c *api.Cert) { unions(c, 620) }},
		{"more unions", func(c *api.Cert) { unions(c, 900) }},
		{"args and unions", func(c *api.Cert) { args(c, 4000); unions(c, 500) }},
		{"args", func(c *api.Cert) { args(c, 4000) }},
		{"facts", func(c *api.Cert) { facts(c, 1100) }},
		{"more facts", func(c *api.Cert) { facts(c, 1200) }},
		{"args and facts", func(c *api.Cert) { args(c, 4000); facts(c, 900) }},
		{"args and more facts", func(c *api.Cert) { args(c, 4000); facts(c, 1050) }},
	} {
		c := api.Cert{Module: "m", Graph: tags(1000)}
		x.change(&c)
		if e := cert.Check(c); e != api.OK {
			t.Fatalf("%s: error %d", x.what, e)
		}
		got := toldBytes(code.Bytes(c))
		want := readBytes(c)
		if got != want {
			t.Errorf("%s: %.50q, not %.50q", x.what, got, want)
		}
	}
}

// Everything that a certificate may have at most, there and back.
func TestP14_5_MostOfAll(t *testing.T) {
	c := api.Cert{Module: "m234567890123456", Graph: tags(2000), Types: make([]int, 4000)}
	for i := range 4000 {
		c.Types[i] = i/2 - i%2*(i/2+1)
		c.Args = append(c.Args, arg(i, i%2000, 1999, 0))
	}
	for i := range 8000 {
		c.Facts = append(c.Facts, of(i%2000, i/4, 0))
		c.Uses = append(c.Uses, use(i/2, i%2*255, 7999-i))
	}
	for i := range 16 {
		c.Sums = append(c.Sums, sum(fmt.Sprintf("s%015d", i), i<<28))
	}
	b, e := code.Bytes(c)
	if e != api.OK || string(b) != string(encoded(c)) {
		t.Fatalf("%d bytes, error %d", len(b), e)
	}
	l := contents(c)
	judge(t, "all", b, told(c, api.OK), sizesOf(l[:]...))
}

// A valid certificate may have many times the bytes that may be written: they are not.
func TestP14_1_FarTooManyBytes(t *testing.T) {
	c := api.Cert{Module: "m", Graph: append(tags(1999), union(upTo(1999)...))}
	why := slices.Repeat([]int{7999}, 1999)
	for range 8000 {
		c.Facts = append(c.Facts, of(1999, 1999, why...))
	}
	var before, after runtime.MemStats
	runtime.ReadMemStats(&before)
	got := toldBytes(code.Bytes(c))
	runtime.ReadMemStats(&after)
	if got != failed(api.ErrLimit) {
		t.Errorf("%.50q", got)
	}
	if used := after.TotalAlloc - before.TotalAlloc; used > 64<<20 {
		t.Errorf("%d bytes of memory", used)
	}
}

// Great contents that are read up to their end, and then are none of a certificate.
func TestP14_2_GreatContents(t *testing.T) {
	zeros := strings.Repeat("\x00", 1<<20)
	inAll := func(number int, s string) []byte {
		l := contents(nothing())
		l[number-1] = s
		return sealed(body(l[:]...))
	}
	for _, x := range []struct {
		what   string
		number int
		s      string
		want   api.Errno
	}{
		{"records of many keys", 2, num(100) + strings.Repeat("\x07"+num(8000)+zeros[:8000]+"\x00", 100), api.ErrArg},
		{"unions of many", 2, num(100) + strings.Repeat("\x08"+num(8000)+zeros[:8000], 100), api.ErrArg},
		{"8000 nodes", 2, num(8000) + strings.Repeat("\x04", 8000), api.ErrLimit},
		{"8000 unions", 2, num(8000) + strings.Repeat("\x08\x7F"+zeros[:127], 8000), api.ErrLimit},
		{"2000 unions", 2, num(2000) + strings.Repeat("\x08"+num(500)+zeros[:500], 2000), api.ErrArg},
		{"tags of great names", 2, num(15) + strings.Repeat("\x05"+num(65536)+zeros[:65536], 15), api.ErrArg},
		{"8000 types", 3, num(8000) + zeros[:8000], api.ErrLimit},
		{"args of many", 4, num(100) + strings.Repeat("\x00"+num(8000)+zeros[:8000], 100), api.ErrArg},
		{"8000 args", 4, num(8000) + strings.Repeat("\x00\x7E"+zeros[:126], 8000), api.ErrArg},
		{"8000 facts", 5, num(8000) + strings.Repeat("\x00\x00\x7D"+zeros[:125], 8000), api.ErrArg},
		{"8000 uses", 6, num(8000) + zeros[:24000], api.ErrArg},
		{"8000 sums", 7, num(8000) + strings.Repeat("\x7D"+zeros[:125]+"\x00", 8000), api.ErrArg},
		{"a great content with more", 5, "\x00" + zeros[:1<<20-100], api.ErrPart},
		{"a great content of one text", 1, zeros[:1<<20-100], api.ErrPart},
	} {
		if got := told(code.Parse(inAll(x.number, x.s))); got != failed(x.want) {
			t.Errorf("%s: %s, not error %d", x.what, got, x.want)
		}
	}
}
