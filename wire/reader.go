package wire

import (
	"armillary/api"
)

// Reader reads what was encoded, item after item, up to the first error.
type Reader struct {
	bytes []byte
	at    int
	err   api.Errno
	made  bool // tells a reader of no bytes from a zero one
}

// NewReader returns a reader at the first byte of a copy of b.
func NewReader(b []byte) *Reader {
	c := make([]byte, len(b))
	copy(c, b)
	return &Reader{bytes: c, made: true}
}

// Num reads a number.
func (r *Reader) Num() int {
	if r.Err() != api.OK {
		return 0
	}
	n := 0
	for k := 0; ; k++ {
		if r.at == len(r.bytes) {
			r.err = api.ErrTrunc
			return 0
		}
		d := r.bytes[r.at]
		r.at++
		// A last digit 0 would give a number a second, longer encoding.
		if k == maxDigits-1 && d >= topEnd || k > 0 && d == 0 {
			r.err = api.ErrForm
			return 0
		}
		n += int(d%more) << (k * digitBits)
		if d < more {
			return n
		}
	}
}

// Text reads a string.
func (r *Reader) Text() string {
	n := r.count(api.MaxText)
	if r.Err() != api.OK {
		return ""
	}
	if n > r.Left() {
		r.err = api.ErrTrunc
		return ""
	}
	s := string(r.bytes[r.at : r.at+n])
	r.at += n
	return s
}

// Nums reads a list of numbers.
func (r *Reader) Nums() []int { return readAll(r, r.Num) }

// Texts reads a list of strings.
func (r *Reader) Texts() []string { return readAll(r, r.Text) }

// Left returns the number of bytes that remain, 0 after an error.
func (r *Reader) Left() int {
	if r.Err() != api.OK {
		return 0
	}
	return len(r.bytes) - r.at
}

// Err returns the first error.
func (r *Reader) Err() api.Errno {
	if r == nil || !r.made {
		return api.ErrNil
	}
	return r.err
}

// End returns the first error, which bytes that remain are, too.
func (r *Reader) End() api.Errno {
	if r.Left() > 0 {
		r.err = api.ErrForm
	}
	return r.Err()
}

// count reads how many bytes or elements follow.
func (r *Reader) count(most int) int {
	n := r.Num()
	if n > most {
		r.err = api.ErrLimit
		return 0
	}
	return n
}

// readAll reads a list whose elements are read by a function of r.
func readAll[T any](r *Reader, read func() T) []T {
	n := r.count(api.MaxFacts)
	if r.Err() != api.OK {
		return nil
	}
	// An element takes a byte at least, so a false count of a short input gets little memory.
	l := make([]T, 0, min(n, r.Left()))
	for range n {
		x := read()
		if r.Err() != api.OK {
			return nil
		}
		l = append(l, x)
	}
	return l
}
