package wire_test

import (
	"bytes"
	"math"
	"slices"
	"strings"
	"testing"

	"armillary/api"
	"armillary/wire"
)

type written struct {
	what string
	b    []byte
	e    api.Errno
}

// write makes what one call answers into one value.
func write[T any](what string, call func([]byte, T) ([]byte, api.Errno), b []byte, x T) written {
	c, e := call(b, x)
	return written{what, c, e}
}

func (w written) expect(t *testing.T, b []byte, e api.Errno) {
	t.Helper()
	if w.e != e || !bytes.Equal(w.b, b) {
		t.Errorf("%s: % X, error %d; want % X, error %d", w.what, head(w.b), w.e, head(b), e)
	}
	if e != api.OK && len(w.b) > 0 {
		t.Errorf("%s: bytes beside an error", w.what)
	}
}

func head(b []byte) []byte { return b[:min(len(b), 20)] }

var numbers = []struct {
	n int
	b string
}{
	{0, "\x00"}, {1, "\x01"}, {127, "\x7F"},
	{128, "\x80\x01"}, {129, "\x81\x01"}, {200, "\xC8\x01"}, {300, "\xAC\x02"},
	{16383, "\xFF\x7F"}, {16384, "\x80\x80\x01"}, {65536, "\x80\x80\x04"},
	{1<<21 - 1, "\xFF\xFF\x7F"}, {1 << 21, "\x80\x80\x80\x01"},
	{api.MaxInt, "\xFF\xFF\xFF\xFF\x07"},
	{1<<49 - 1, "\xFF\xFF\xFF\xFF\xFF\xFF\x7F"}, {1 << 49, "\x80\x80\x80\x80\x80\x80\x80\x01"},
	{api.MaxNumber, "\xFF\xFF\xFF\xFF\xFF\xFF\xFF\x0F"},
}

func TestP1_1_Num(t *testing.T) {
	for _, x := range numbers {
		write("Num", wire.Num, nil, x.n).expect(t, []byte(x.b), api.OK)
		write("Num behind ab", wire.Num, []byte("ab"), x.n).expect(t, []byte("ab"+x.b), api.OK)
	}
	for _, n := range []int{-1, -128, math.MinInt, api.MaxNumber + 1, math.MaxInt} {
		write("Num", wire.Num, []byte("ab"), n).expect(t, nil, api.ErrRange)
	}
}

func TestP1_1_Text(t *testing.T) {
	long := strings.Repeat("x", 200)
	most := strings.Repeat("y", api.MaxText)
	write("Text", wire.Text, nil, "ab").expect(t, []byte("\x02ab"), api.OK)
	write("Text", wire.Text, nil, "").expect(t, []byte{0}, api.OK)
	write("Text", wire.Text, []byte{7}, "\x00\xFFé").expect(t, []byte("\x07\x04\x00\xFFé"), api.OK)
	write("Text", wire.Text, []byte{7}, long).expect(t, []byte("\x07\xC8\x01"+long), api.OK)
	write("Text of the most bytes", wire.Text, nil, most).expect(t, []byte("\x80\x80\x04"+most), api.OK)
	write("Text of one more", wire.Text, []byte("ab"), most+"y").expect(t, nil, api.ErrLimit)
}

func TestP1_1_Nums(t *testing.T) {
	most := make([]int, api.MaxFacts)
	more := make([]int, api.MaxFacts+1)
	more[0] = -1 // the number of elements is judged ahead of them
	write("Nums", wire.Nums, nil, []int{1, 200}).expect(t, []byte{2, 1, 0xC8, 1}, api.OK)
	write("Nums", wire.Nums, []byte{9}, []int{}).expect(t, []byte{9, 0}, api.OK)
	write("Nums", wire.Nums, nil, nil).expect(t, []byte{0}, api.OK)
	write("Nums, most", wire.Nums, nil, most).expect(t, append([]byte{0xC0, 0x3E}, make([]byte, api.MaxFacts)...), api.OK)
	write("Nums, too many", wire.Nums, []byte("ab"), more).expect(t, nil, api.ErrLimit)
	write("Nums, first invalid", wire.Nums, []byte("ab"), []int{-1, 2}).expect(t, nil, api.ErrRange)
	write("Nums, last invalid", wire.Nums, []byte("ab"), []int{1, 2, api.MaxNumber + 1}).expect(t, nil, api.ErrRange)
}

func TestP1_1_Texts(t *testing.T) {
	long := strings.Repeat("x", api.MaxText+1)
	write("Texts", wire.Texts, nil, []string{"ab", "", "c"}).expect(t, []byte("\x03\x02ab\x00\x01c"), api.OK)
	write("Texts", wire.Texts, []byte{9}, []string{}).expect(t, []byte{9, 0}, api.OK)
	write("Texts", wire.Texts, nil, nil).expect(t, []byte{0}, api.OK)
	write("Texts of one of the most bytes", wire.Texts, nil, []string{long[1:]}).expect(t, []byte("\x01\x80\x80\x04"+long[1:]), api.OK)
	write("Texts, most", wire.Texts, nil, make([]string, api.MaxFacts)).expect(t, append([]byte{0xC0, 0x3E}, make([]byte, api.MaxFacts)...), api.OK)
	write("Texts, too many", wire.Texts, []byte("ab"), make([]string, api.MaxFacts+1)).expect(t, nil, api.ErrLimit)
	write("Texts, last invalid", wire.Texts, []byte("ab"), []string{"a", long}).expect(t, nil, api.ErrLimit)
}

// Both what is in b and the unused capacity behind it stay, and later changes of either side are not seen on the other one.
func TestP1_5_Writing(t *testing.T) {
	calls := []func([]byte) ([]byte, api.Errno){
		func(b []byte) ([]byte, api.Errno) { return wire.Num(b, 300) },
		func(b []byte) ([]byte, api.Errno) { return wire.Text(b, "text") },
		func(b []byte) ([]byte, api.Errno) { return wire.Nums(b, []int{5, 6}) },
		func(b []byte) ([]byte, api.Errno) { return wire.Texts(b, []string{"t", "u"}) },
		func(b []byte) ([]byte, api.Errno) { return wire.Nums(b, []int{5, -6}) },
	}
	for i, call := range calls {
		all := bytes.Repeat([]byte{0xEE}, 64)
		for _, n := range []int{0, 3} {
			c, e := call(all[:n])
			if bytes.Count(all, []byte{0xEE}) != len(all) {
				t.Errorf("call %d changes b or what is behind it", i)
			}
			if e != api.OK {
				continue
			}
			was := slices.Clone(c)
			clear(all)
			if !bytes.Equal(c, was) {
				t.Errorf("call %d: the result shares memory with b", i)
			}
			for k := range all {
				all[k] = 0xEE
			}
			c = c[:cap(c)]
			clear(c)
			if bytes.Count(all, []byte{0xEE}) != len(all) {
				t.Errorf("call %d: b shares memory with the result", i)
			}
		}
	}
	nums, texts := []int{1, 2, 3}, []string{"a", "b", "c"}
	wire.Nums(nil, nums[:2])
	wire.Texts(nil, texts[:2])
	if !slices.Equal(nums, []int{1, 2, 3}) || !slices.Equal(texts, []string{"a", "b", "c"}) {
		t.Error("a list is changed")
	}
}
