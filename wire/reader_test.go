package wire_test

import (
	"bytes"
	"math/rand"
	"slices"
	"strings"
	"testing"

	"armillary/api"
	"armillary/wire"
)

// silent tells that all calls of a reader answer nothing, and that its error stays.
func silent(t *testing.T, what string, r *wire.Reader, e api.Errno) {
	t.Helper()
	for range 2 {
		if r.Num() != 0 || r.Text() != "" || len(r.Nums()) != 0 || len(r.Texts()) != 0 || r.Left() != 0 {
			t.Errorf("%s: it answers something after an error", what)
		}
		if r.Err() != e || r.End() != e {
			t.Errorf("%s: errors %d, %d; want %d", what, r.Err(), r.End(), e)
		}
	}
}

func TestP1_2(t *testing.T) {
	var none *wire.Reader
	silent(t, "a nil reader", none, api.ErrNil)
	silent(t, "a zero reader", &wire.Reader{}, api.ErrNil)
	for _, b := range [][]byte{nil, {}} {
		r := wire.NewReader(b)
		if r.Err() != api.OK || r.End() != api.OK || r.Left() != 0 {
			t.Error("a reader of no bytes is not at its end")
		}
		if r.Num(); r.Err() != api.ErrTrunc {
			t.Error("a reader of no bytes reads one")
		}
	}
	b := []byte{5, 2, 'a', 'b', 1, 9, 1, 1, 'c', 7}
	r := wire.NewReader(b)
	clear(b) // it has bytes of its own
	if r.Left() != 10 || r.Err() != api.OK {
		t.Error("not at the first byte")
	}
	if r.Num() != 5 || r.Left() != 9 {
		t.Error("Num reads another byte than the first one")
	}
	if r.Text() != "ab" || r.Left() != 6 {
		t.Error("Text")
	}
	if !slices.Equal(r.Nums(), []int{9}) || r.Left() != 4 {
		t.Error("Nums")
	}
	if !slices.Equal(r.Texts(), []string{"c"}) || r.Left() != 1 || r.Err() != api.OK {
		t.Error("Texts")
	}
	r.Text()
	silent(t, "a reader after an error", r, api.ErrTrunc)
}

// num is a number's encoding.
func num(n int) string {
	b, _ := wire.Num(nil, n)
	return string(b)
}

const (
	rest7 = "\xFF\xFF\xFF\xFF\xFF\xFF\xFF" // all digits of a number but the 8th
	even7 = "\x80\x80\x80\x80\x80\x80\x80"
)

// badNums are bytes at which no number begins.
var badNums = []struct {
	b string
	e api.Errno
}{
	{"", api.ErrTrunc}, {"\x80", api.ErrTrunc}, {"\xFF", api.ErrTrunc}, {rest7, api.ErrTrunc}, {even7, api.ErrTrunc},
	{"\x80\x00", api.ErrForm}, {"\x81\x00", api.ErrForm}, {"\x80\x80\x00\x01", api.ErrForm}, {even7 + "\x00", api.ErrForm}, {rest7 + "\x00", api.ErrForm},
	{rest7 + "\x10", api.ErrForm}, {rest7 + "\x20", api.ErrForm}, {rest7 + "\x7F", api.ErrForm}, {rest7 + "\x80", api.ErrForm}, {rest7 + "\x8F", api.ErrForm}, {even7 + "\xFF\x01", api.ErrForm},
}

func TestP1_3_Num(t *testing.T) {
	for _, x := range numbers {
		r := wire.NewReader([]byte(x.b))
		if n := r.Num(); n != x.n || r.End() != api.OK {
			t.Errorf("% X: %d, error %d", x.b, n, r.Err())
		}
	}
	for _, x := range badNums {
		r := wire.NewReader([]byte(x.b))
		if n := r.Num(); n != 0 {
			t.Errorf("% X: %d", x.b, n)
		}
		silent(t, x.b, r, x.e)
	}
}

// readers are the calls that read, each without an answer for no bytes.
var readers = map[string]func(r *wire.Reader) bool{
	"Num":   func(r *wire.Reader) bool { return r.Num() == 0 },
	"Text":  func(r *wire.Reader) bool { return r.Text() == "" },
	"Nums":  func(r *wire.Reader) bool { return len(r.Nums()) == 0 },
	"Texts": func(r *wire.Reader) bool { return len(r.Texts()) == 0 },
}

// fails tells that a call fails so at these bytes, and that this is the reader's first error.
func fails(t *testing.T, call, b string, e api.Errno) {
	t.Helper()
	r := wire.NewReader([]byte(b))
	if !readers[call](r) {
		t.Errorf("%s of % X answers something", call, head([]byte(b)))
	}
	silent(t, call, r, e)
}

func TestP1_3_Errors(t *testing.T) {
	for _, x := range badNums {
		for call := range readers {
			fails(t, call, x.b, x.e)
		}
		for _, call := range []string{"Nums", "Texts"} {
			fails(t, call, "\x01"+x.b, x.e)
			fails(t, call, "\x02\x00"+x.b, x.e)
		}
	}
	full := strings.Repeat("x", api.MaxText)
	fails(t, "Text", num(api.MaxText+1), api.ErrLimit)
	fails(t, "Text", num(api.MaxText+1)+full+"x", api.ErrLimit)
	fails(t, "Text", num(api.MaxNumber), api.ErrLimit)
	fails(t, "Text", num(api.MaxText), api.ErrTrunc)
	fails(t, "Text", num(api.MaxText)+full[1:], api.ErrTrunc)
	fails(t, "Text", "\x03ab", api.ErrTrunc)
	for _, call := range []string{"Nums", "Texts"} {
		fails(t, call, num(api.MaxFacts+1), api.ErrLimit)
		fails(t, call, num(api.MaxFacts+1)+full, api.ErrLimit)
		fails(t, call, num(api.MaxNumber), api.ErrLimit)
		fails(t, call, num(api.MaxFacts), api.ErrTrunc)
		fails(t, call, num(api.MaxFacts)+strings.Repeat("\x00", api.MaxFacts-1), api.ErrTrunc)
		fails(t, call, num(api.MaxFacts)+"\x80\x00", api.ErrForm)
	}
	fails(t, "Texts", "\x02\x01a"+num(api.MaxText+1)+full, api.ErrLimit)
	fails(t, "Texts", "\x02\x01a\x02b", api.ErrTrunc)
}

// The greatest items are none too many.
func TestP1_3_Greatest(t *testing.T) {
	text := strings.Repeat("x", api.MaxText)
	if r := wire.NewReader([]byte(num(api.MaxText) + text)); r.Text() != text || r.End() != api.OK {
		t.Error("Text of the most bytes")
	}
	zeros := []byte(num(api.MaxFacts) + strings.Repeat("\x00", api.MaxFacts))
	if r := wire.NewReader(zeros); len(r.Nums()) != api.MaxFacts || r.End() != api.OK {
		t.Error("Nums of the most elements")
	}
	if r := wire.NewReader(zeros); len(r.Texts()) != api.MaxFacts || r.End() != api.OK {
		t.Error("Texts of the most elements")
	}
	for _, b := range []string{"\x00", "\x00\x05"} {
		r := wire.NewReader([]byte(b))
		if len(r.Nums()) != 0 || r.Err() != api.OK || r.Left() != len(b)-1 {
			t.Error("Nums of no elements")
		}
	}
}

func TestP1_4(t *testing.T) {
	r := wire.NewReader([]byte{1, 2})
	if r.Num(); r.Err() != api.OK || r.End() != api.ErrForm {
		t.Error("End where bytes remain")
	}
	silent(t, "a reader whose end was asked for too early", r, api.ErrForm)
	r = wire.NewReader([]byte{1, 2})
	r.Num()
	r.Num()
	if r.End() != api.OK || r.End() != api.OK || r.Err() != api.OK {
		t.Error("End at the end")
	}
	r = wire.NewReader([]byte{0x80, 0x00, 5})
	if r.Num(); r.End() != api.ErrForm {
		t.Error("End after an error of form")
	}
	r = wire.NewReader([]byte{3, 'a'})
	if r.Text(); r.End() != api.ErrTrunc {
		t.Error("End after an error, with a byte that remains, is another error")
	}
}

func TestP1_5_Reading(t *testing.T) {
	b := bytes.Repeat([]byte{1}, 32)
	r := wire.NewReader(b[:20])
	l, s := r.Nums(), r.Texts()
	if bytes.Count(b, []byte{1}) != len(b) {
		t.Error("a reader changes bytes")
	}
	l[0] = 7
	s[0] = "seven"
	if !slices.Equal(r.Nums(), []int{1}) || !slices.Equal(r.Texts(), []string{"\x01"}) {
		t.Error("two results share memory")
	}
	if !slices.Equal(l, []int{7}) || !slices.Equal(s, []string{"seven"}) {
		t.Error("a later call changes a result")
	}
}

// An item is one of the four kinds.
type item struct {
	kind  int
	n     int
	s     string
	nums  []int
	texts []string
}

func randomNum(r *rand.Rand) int { return r.Intn(1 << (1 + r.Intn(53))) }

func randomText(r *rand.Rand) string {
	b := make([]byte, r.Intn(4)*r.Intn(70))
	r.Read(b)
	return string(b)
}

func randomItem(r *rand.Rand) item {
	x := item{kind: r.Intn(4)}
	switch x.kind {
	case 0:
		x.n = randomNum(r)
	case 1:
		x.s = randomText(r)
	case 2:
		for range r.Intn(5) * r.Intn(60) {
			x.nums = append(x.nums, randomNum(r))
		}
	case 3:
		for range r.Intn(5) {
			x.texts = append(x.texts, randomText(r))
		}
	}
	return x
}

func (x item) write(b []byte) ([]byte, api.Errno) {
	switch x.kind {
	case 0:
		return wire.Num(b, x.n)
	case 1:
		return wire.Text(b, x.s)
	case 2:
		return wire.Nums(b, x.nums)
	}
	return wire.Texts(b, x.texts)
}

func readItem(r *wire.Reader, kind int) item {
	x := item{kind: kind}
	switch kind {
	case 0:
		x.n = r.Num()
	case 1:
		x.s = r.Text()
	case 2:
		x.nums = r.Nums()
	case 3:
		x.texts = r.Texts()
	}
	return x
}

func (x item) same(y item) bool {
	return x.kind == y.kind && x.n == y.n && x.s == y.s && slices.Equal(x.nums, y.nums) && slices.Equal(x.texts, y.texts)
}

func (x item) nothing() bool { return x.same(item{kind: x.kind}) }

// writeItems writes items, and where each ends.
func writeItems(t *testing.T, l []item) (b []byte, ends []int) {
	for _, x := range l {
		c, e := x.write(b)
		if e != api.OK || !bytes.HasPrefix(c, b) {
			t.Fatalf("an item of kind %d: error %d", x.kind, e)
		}
		b = c
		ends = append(ends, len(b))
	}
	return b, ends
}

func TestP1_6_RoundTrip(t *testing.T) {
	random := rand.New(rand.NewSource(6))
	for range 300 {
		var l []item
		for range random.Intn(8) {
			l = append(l, randomItem(random))
		}
		b, ends := writeItems(t, l)
		r := wire.NewReader(b)
		for i, x := range l {
			if y := readItem(r, x.kind); !x.same(y) || r.Left() != len(b)-ends[i] {
				t.Fatalf("item %d: %v, want %v", i, y, x)
			}
		}
		if r.End() != api.OK {
			t.Fatalf("error %d at the end", r.Err())
		}
	}
}

// oneForm tells that an item read from bytes is encoded as what was read.
func oneForm(t *testing.T, b []byte) {
	t.Helper()
	for kind := range 4 {
		r := wire.NewReader(b)
		x := readItem(r, kind)
		if r.Err() != api.OK {
			continue
		}
		c, e := x.write(nil)
		if e != api.OK || !bytes.Equal(c, b[:len(b)-r.Left()]) {
			t.Errorf("kind %d of % X: encoded as % X, error %d", kind, b, c, e)
		}
	}
}

func TestP1_6_OneEncoding(t *testing.T) {
	for x := range 1 << 16 {
		oneForm(t, []byte{byte(x), byte(x >> 8)})
	}
	random := rand.New(rand.NewSource(66))
	for range 100000 {
		b := make([]byte, random.Intn(12))
		for i := range b {
			b[i] = []byte{0, 1, 2, 3, 15, 16, 127, 128, 129, 255}[random.Intn(10)]
		}
		oneForm(t, b)
	}
}

func TestP1_7(t *testing.T) {
	random := rand.New(rand.NewSource(7))
	for range 60 {
		l := []item{randomItem(random), randomItem(random), randomItem(random)}
		b, ends := writeItems(t, l)
		for cut := range b {
			r := wire.NewReader(b[:cut])
			for i, x := range l {
				y := readItem(r, x.kind)
				if whole := ends[i] <= cut; whole && !x.same(y) || !whole && (!y.nothing() || r.Err() != api.ErrTrunc) {
					t.Fatalf("cut at %d, item %d: %v, error %d", cut, i, y, r.Err())
				}
			}
			silent(t, "a reader of bytes that are cut off", r, api.ErrTrunc)
		}
	}
}

func TestP1_8(t *testing.T) {
	random := rand.New(rand.NewSource(8))
	for range 300 {
		x := randomItem(random)
		alone, _ := x.write(nil)
		ahead, behind := []byte(randomText(random)), []byte(randomText(random))
		b, e := x.write(ahead)
		if e != api.OK || !bytes.Equal(b, append(slices.Clone(ahead), alone...)) {
			t.Fatalf("behind % X: % X, error %d; want % X", ahead, b, e, alone)
		}
		r := wire.NewReader(append(alone, behind...))
		if y := readItem(r, x.kind); !x.same(y) || r.Err() != api.OK || r.Left() != len(behind) {
			t.Fatalf("ahead of % X: %v, error %d; want %v", behind, y, r.Err(), x)
		}
	}
	bad := []byte{0x80, 0x00}
	for _, behind := range []string{"", "\x01", "\x80", "abc"} {
		r := wire.NewReader(append(slices.Clone(bad), behind...))
		if r.Num(); r.Err() != api.ErrForm {
			t.Errorf("a bad number ahead of % X: error %d", behind, r.Err())
		}
	}
}
