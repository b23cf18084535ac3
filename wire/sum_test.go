package wire_test

import (
	"bytes"
	"math/rand"
	"sync"
	"testing"

	"armillary/wire"
)

// plainSum is the definition, word by word.
func plainSum(b []byte) int {
	reg := uint32(0xFFFFFFFF)
	for _, x := range b {
		reg ^= uint32(x)
		for range 8 {
			if out := reg & 1; out == 1 {
				reg = reg>>1 ^ 0xEDB88320
			} else {
				reg >>= 1
			}
		}
	}
	return int(reg ^ 0xFFFFFFFF)
}

// sums are both ways to the checksum: each promise about it is of both.
var sums = map[string]func([]byte) int{"Sum": wire.Sum, "SumByTable": wire.SumByTable}

func TestP1_1_Sum(t *testing.T) {
	for name, sum := range sums {
		for _, x := range []struct {
			b   string
			sum int
		}{
			{"123456789", 0xCBF43926}, {"", 0}, {"\x00", 0xD202EF8D},
			{"\xFF\xFF\xFF\xFF", 0xFFFFFFFF}, {"\x00\x00\x00\x00", 0x2144DF1C},
		} {
			if n := sum([]byte(x.b)); n != x.sum {
				t.Errorf("%s of %q: %X, want %X", name, x.b, n, x.sum)
			}
		}
		if sum(nil) != 0 {
			t.Errorf("%s of nil is not 0", name)
		}
		r := rand.New(rand.NewSource(1))
		for n := range 300 {
			b := make([]byte, n)
			r.Read(b)
			if sum(b) != plainSum(b) {
				t.Errorf("%s of % X: %X, want %X", name, b, sum(b), plainSum(b))
			}
		}
		for x := range 1 << 16 {
			b := []byte{byte(x), byte(x >> 8)}
			if n := sum(b); n != plainSum(b) || n < 0 || n > 1<<32-1 {
				t.Fatalf("%s of % X: %X, want %X", name, b, n, plainSum(b))
			}
		}
	}
}

// The table is made once, whoever asks first.
func TestP1_1_SumAtOnce(t *testing.T) {
	for name, sum := range sums {
		var wait sync.WaitGroup
		found := make([]int, 16)
		for i := range found {
			wait.Go(func() { found[i] = sum([]byte("123456789")) })
		}
		wait.Wait()
		for _, n := range found {
			if n != 0xCBF43926 {
				t.Errorf("%s: %X", name, n)
			}
		}
	}
}

func TestP1_5_Sum(t *testing.T) {
	for name, sum := range sums {
		b := bytes.Repeat([]byte{0xEE}, 40)
		sum(b[:30])
		if bytes.Count(b, []byte{0xEE}) != len(b) {
			t.Errorf("%s changes bytes", name)
		}
	}
}

// flip flips the bits of a pattern, from a bit on, in each byte the least significant one first; bits behind the end are left out.
func flip(b []byte, from int, pattern uint32) (flipped bool) {
	for k := range 32 {
		at := from + k
		if pattern>>k&1 == 1 && at < 8*len(b) {
			b[at/8] ^= 1 << (at % 8)
			flipped = true
		}
	}
	return flipped
}

func TestP1_9(t *testing.T) {
	for name, sum := range sums {
		seesFlips(t, name, sum)
	}
}

func seesFlips(t *testing.T, name string, sum func([]byte) int) {
	r := rand.New(rand.NewSource(9))
	for _, n := range []int{1, 2, 3, 4, 5, 8, 40} {
		b := make([]byte, n)
		r.Read(b)
		was := sum(b)
		check := func(from int, pattern uint32) {
			if flip(b, from, pattern) && sum(b) == was {
				t.Errorf("%s of % X: flips %X from bit %d on are not seen", name, b, pattern, from)
			}
			flip(b, from, pattern)
		}
		for from := range 8 * n {
			for pattern := uint32(1); pattern < 256; pattern += 2 {
				check(from, pattern)
			}
			check(from, 0xFFFFFFFF)
			check(from, 0x80000001)
			check(from, 0xEDB88320)
			for range 100 {
				check(from, r.Uint32()|1)
			}
		}
	}
}
