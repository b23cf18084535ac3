// Package wire is layer 1: numbers, strings and lists of them as bytes. See shared/doc/01-wire.md.
package wire

import (
	"armillary/api"
)

const (
	digitBits = 7
	more      = 1 << digitBits // added to each byte of a number but its last one
	maxDigits = 8
	topEnd    = 16 // the 8th digit is less: seven digits and four bits are 53 bits
)

// Num returns b followed by the encoding of n.
func Num(b []byte, n int) ([]byte, api.Errno) { return behind(b, n, appendNum) }

// Text returns b followed by the encoding of s.
func Text(b []byte, s string) ([]byte, api.Errno) { return behind(b, s, appendText) }

// Nums returns b followed by the encoding of l.
func Nums(b []byte, l []int) ([]byte, api.Errno) { return behind(b, l, appendNums) }

// Texts returns b followed by the encoding of l.
func Texts(b []byte, l []string) ([]byte, api.Errno) { return behind(b, l, appendTexts) }

// behind appends x to a copy of b: appending to b itself could write into its unused capacity.
func behind[T any](b []byte, x T, write func([]byte, T) ([]byte, api.Errno)) ([]byte, api.Errno) {
	c := make([]byte, len(b), len(b)+maxDigits)
	copy(c, b)
	return write(c, x)
}

// appendAll appends a list whose elements are written by a function.
func appendAll[T any](b []byte, l []T, write func([]byte, T) ([]byte, api.Errno)) ([]byte, api.Errno) {
	if len(l) > api.MaxFacts {
		return nil, api.ErrLimit
	}
	b = appendDigits(b, len(l))
	for _, x := range l {
		var e api.Errno
		if b, e = write(b, x); e != api.OK {
			return nil, e
		}
	}
	return b, api.OK
}

func appendNums(b []byte, l []int) ([]byte, api.Errno)     { return appendAll(b, l, appendNum) }
func appendTexts(b []byte, l []string) ([]byte, api.Errno) { return appendAll(b, l, appendText) }

func appendNum(b []byte, n int) ([]byte, api.Errno) {
	if n < 0 || n > api.MaxNumber {
		return nil, api.ErrRange
	}
	return appendDigits(b, n), api.OK
}

func appendText(b []byte, s string) ([]byte, api.Errno) {
	if len(s) > api.MaxText {
		return nil, api.ErrLimit
	}
	return append(appendDigits(b, len(s)), s...), api.OK
}

// appendDigits appends the encoding of n, which is known to be a number.
func appendDigits(b []byte, n int) []byte {
	for n >= more {
		b = append(b, byte(n%more+more))
		n /= more
	}
	return append(b, byte(n))
}
