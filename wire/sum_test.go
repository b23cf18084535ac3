package wire_test

import (
	"bytes"
	"math/rand"
	"sync"
	"testing"

	"armillary/wire"
)

// plainSum is the definition, word by word.
func plainSum(b []byte) int {
	reg := uint32(0xFFFFFFFF)
	for _, x := range b {
		reg ^= uint32(x)
		for range 8 {
			if out := reg & 1; out == 1 {
				reg = reg>>1 ^ 0xEDB88320
			} else {
				reg >>= 1
			}
		}
	}
	return int(reg ^ 0xFFFFFFFF)
}

func TestP1_1_Sum(t *testing.T) {
	for _, x := range []struct {
		b   string
		sum int
	}{
		{"123456789", 0xCBF43926}, {"", 0}, {"\x00", 0xD202EF8D},
		{"\xFF\xFF\xFF\xFF", 0xFFFFFFFF}, {"\x00\x00\x00\x00", 0x2144DF1C},
	} {
		if n := wire.Sum([]byte(x.b)); n != x.sum {
			t.Errorf("Sum of %q: %X, want %X", x.b, n, x.sum)
		}
	}
	if wire.Sum(nil) != 0 {
		t.Error("Sum of nil is not 0")
	}
	r := rand.New(rand.NewSource(1))
	for n := range 300 {
		b := make([]byte, n)
		r.Read(b)
		if wire.Sum(b) != plainSum(b) {
			t.Errorf("Sum of % X: %X, want %X", b, wire.Sum(b), plainSum(b))
		}
	}
	for x := range 1 << 16 {
		b := []byte{byte(x), byte(x >> 8)}
		if n := wire.Sum(b); n != plainSum(b) || n < 0 || n > 1<<32-1 {
			t.Fatalf("Sum of % X: %X, want %X", b, n, plainSum(b))
		}
	}
}

// The table is made once, whoever asks first.
func TestP1_1_SumAtOnce(t *testing.T) {
	var wait sync.WaitGroup
	sums := make([]int, 16)
	for i := range sums {
		wait.Go(func() { sums[i] = wire.Sum([]byte("123456789")) })
	}
	wait.Wait()
	for _, n := range sums {
		if n != 0xCBF43926 {
			t.Errorf("Sum: %X", n)
		}
	}
}

func TestP1_5_Sum(t *testing.T) {
	b := bytes.Repeat([]byte{0xEE}, 40)
	wire.Sum(b[:30])
	if bytes.Count(b, []byte{0xEE}) != len(b) {
		t.Error("Sum changes bytes")
	}
}

// flip flips the bits of a pattern, from a bit on, in each byte the least significant one first; bits behind the end are left out.
func flip(b []byte, from int, pattern uint32) (flipped bool) {
	for k := range 32 {
		at := from + k
		if pattern>>k&1 == 1 && at < 8*len(b) {
			b[at/8] ^= 1 << (at % 8)
			flipped = true
		}
	}
	return flipped
}

func TestP1_9(t *testing.T) {
	r := rand.New(rand.NewSource(9))
	for _, n := range []int{1, 2, 3, 4, 5, 8, 40} {
		b := make([]byte, n)
		r.Read(b)
		sum := wire.Sum(b)
		check := func(from int, pattern uint32) {
			if flip(b, from, pattern) && wire.Sum(b) == sum {
				t.Errorf("% X: flips %X from bit %d on are not seen", b, pattern, from)
			}
			flip(b, from, pattern)
		}
		for from := range 8 * n {
			for pattern := uint32(1); pattern < 256; pattern += 2 {
				check(from, pattern)
			}
			check(from, 0xFFFFFFFF)
			check(from, 0x80000001)
			check(from, 0xEDB88320)
			for range 100 {
				check(from, r.Uint32()|1)
			}
		}
	}
}
