package code

import (
	"bytes"

	"armillary/api"
	"armillary/wire"
)

const (
	header   = "ARM1"
	sections = 7
	sumBytes = 4
	byteBits = 8
)

// checksum returns the bytes that follow all others.
func checksum(b []byte) []byte {
	sum := wire.Sum(b)
	l := make([]byte, sumBytes)
	for i := range l {
		l[i] = byte(sum >> (i * byteBits))
	}
	return l
}

// section returns a section: its number, the size of its content, and the content.
func section(number int, content *writer) ([]byte, api.Errno) {
	c, e := content.written()
	if e != api.OK {
		return nil, e
	}
	b, e := wire.Num([]byte{byte(number)}, len(c))
	if e != api.OK {
		return nil, e
	}
	return append(b, c...), api.OK
}

// walk goes through the sections of an encoding: each content is visited ahead of the next section.
func walk(b []byte, visit func(i int, content []byte) api.Errno) api.Errno {
	rest, e := between(b)
	for i := 0; i < sections && e == api.OK; i++ {
		var content []byte
		if content, rest, e = cut(rest, i+1); e == api.OK {
			e = visit(i, content)
		}
	}
	if e == api.OK && len(rest) > 0 {
		e = api.ErrPart
	}
	return e
}

// between returns the bytes between the header and the checksum.
func between(b []byte) ([]byte, api.Errno) {
	end := len(b) - sumBytes
	switch {
	case len(b) > api.MaxBytes:
		return nil, api.ErrLimit
	case end < len(header):
		return nil, api.ErrTrunc
	case string(b[:len(header)]) != header:
		return nil, api.ErrHead
	case !bytes.Equal(b[end:], checksum(b[:end])):
		return nil, api.ErrSum
	}
	return b[len(header):end], api.OK
}

// cut returns the content of the section that b begins with, if it has this number, and what follows it.
func cut(b []byte, number int) (content, rest []byte, e api.Errno) {
	if len(b) == 0 {
		return nil, nil, api.ErrTrunc
	}
	if int(b[0]) != number {
		return nil, nil, api.ErrPart
	}
	r := wire.NewReader(b[1:])
	size := r.Num()
	if e := r.Err(); e != api.OK {
		return nil, nil, e
	}
	if size > r.Left() {
		return nil, nil, api.ErrTrunc
	}
	rest = b[len(b)-r.Left():]
	return rest[:size], rest[size:], api.OK
}
