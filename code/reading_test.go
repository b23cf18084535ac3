package code_test

import (
	"hash/crc32"

	"armillary/api"
	"armillary/cert"
)

// A reading decodes bytes as the chapter says, clause by clause; it stops at the first error.
type reading struct{ left string }

type stop api.Errno

// unless stops with an error unless something is so.
func unless(ok bool, e api.Errno) {
	if !ok {
		panic(stop(e))
	}
}

// stopped calls something, and returns the error with which it stops.
func stopped(call func()) (e api.Errno) {
	defer func() {
		if s, ok := recover().(stop); ok {
			e = api.Errno(s)
		}
	}()
	call()
	return api.OK
}

func (r *reading) take(n int) string {
	unless(n <= len(r.left), api.ErrTrunc)
	s := r.left[:n]
	r.left = r.left[n:]
	return s
}

func (r *reading) num() (n int) {
	for k := 0; ; k++ {
		d := int(r.take(1)[0])
		unless(k < 7 || d < 16, api.ErrForm)
		unless(k == 0 || d != 0, api.ErrForm)
		n |= d % 128 << (7 * k)
		if d < 128 {
			return n
		}
	}
}

func (r *reading) count(most int) int {
	n := r.num()
	unless(n <= most, api.ErrLimit)
	return n
}

func (r *reading) text() string { return r.take(r.count(65536)) }

func (r *reading) times(read func()) {
	for range r.count(8000) {
		read()
	}
}

func (r *reading) nums() (l []int) {
	r.times(func() { l = append(l, r.num()) })
	return l
}

func (r *reading) minusOne() (l []int) {
	r.times(func() { l = append(l, r.num()-1) })
	return l
}

func (r *reading) node() (n api.GNode) {
	n.Kind = r.num()
	unless(1 <= n.Kind && n.Kind <= 9 && n.Kind != 6, api.ErrForm)
	if n.Kind == 5 {
		n.Name = r.text()
	}
	if n.Kind == 7 {
		r.times(func() { n.Keys = append(n.Keys, r.text()) })
	}
	if n.Kind == 7 || n.Kind == 8 {
		n.L = r.nums()
	}
	if n.Kind == 9 {
		n.Num = r.num()
		n.L = append(n.L, r.num())
	}
	return n
}

// content reads that of a section.
func (r *reading) content(section int, c *api.Cert) {
	switch section {
	case 1:
		c.Module = r.text()
	case 2:
		r.times(func() { c.Graph = append(c.Graph, r.node()) })
	case 3:
		c.Types = r.minusOne()
	case 4:
		r.times(func() {
			n := r.num()
			c.Args = append(c.Args, api.Arg{Node: n, Types: r.nums()})
		})
	case 5:
		r.times(func() {
			a, b := r.num(), r.num()
			c.Facts = append(c.Facts, api.Fact{A: a, B: b, Why: r.minusOne()})
		})
	case 6:
		r.times(func() {
			a, b, f := r.num(), r.num(), r.num()
			c.Uses = append(c.Uses, api.Use{Node: a, Part: b, Fact: f})
		})
	case 7:
		r.times(func() {
			s := r.text()
			c.Sums = append(c.Sums, api.Sum{Module: s, Sum: r.num()})
		})
	}
	unless(r.left == "", api.ErrPart)
}

// readSections goes through sections, with each one's content.
func readSections(b []byte, visit func(section int, content string)) {
	unless(len(b) <= 1<<20, api.ErrLimit)
	unless(len(b) >= 8, api.ErrTrunc)
	unless(string(b[:4]) == "ARM1", api.ErrHead)
	s := string(b)
	all, end := s[:len(s)-4], s[len(s)-4:]
	sum := 0
	for i := range 4 {
		sum += int(end[i]) << (8 * i)
	}
	unless(sum == int(crc32.ChecksumIEEE([]byte(all))), api.ErrSum)
	r := reading{all[4:]}
	for k := range 7 {
		unless(int(r.take(1)[0]) == k+1, api.ErrPart)
		visit(k+1, r.take(r.num()))
	}
	unless(r.left == "", api.ErrPart)
}

// readParse is what Parse is to return.
func readParse(b []byte) string {
	var c api.Cert
	e := stopped(func() {
		readSections(b, func(section int, content string) {
			r := reading{content}
			r.content(section, &c)
		})
		unless(cert.Check(c) == api.OK, cert.Check(c))
	})
	if e != api.OK {
		return failed(e)
	}
	return told(c, e)
}

// readSizes is what Sections is to return.
func readSizes(b []byte) string {
	var sizes []int
	e := stopped(func() {
		readSections(b, func(_ int, content string) { sizes = append(sizes, len(content)) })
	})
	if e != api.OK {
		return failed(e)
	}
	return toldSizes(sizes, e)
}

// readBytes is what Bytes is to return.
func readBytes(c api.Cert) string {
	if e := cert.Check(c); e != api.OK {
		return failed(e)
	}
	b := encoded(c)
	if len(b) > 1<<20 {
		return failed(api.ErrLimit)
	}
	return string(b)
}
