package sub

import "math/bits"

// A pairSet is a set of pairs, packed: there may be millions of them, for which a map with a key for each is too slow.
type pairSet map[block]uint64

// A block is the pairs of a type a with 64 types side by side, the first of which is 64 * b. Its value has a bit for each of them.
type block struct{ a, b int }

func blockOf(p pair) (at block, bit uint64) { return block{p.a, p.b / 64}, 1 << (p.b % 64) }

func (s pairSet) has(p pair) bool {
	at, bit := blockOf(p)
	return s[at]&bit != 0
}

func (s pairSet) add(p pair) {
	at, bit := blockOf(p)
	s[at] |= bit
}

func (s pairSet) remove(p pair) {
	at, bit := blockOf(p)
	s[at] &^= bit
}

// pairs returns the pairs of a block whose bits are set.
func (at block) pairs(set uint64) (l []pair) {
	for ; set != 0; set &= set - 1 {
		l = append(l, pair{at.a, 64*at.b + bits.TrailingZeros64(set)})
	}
	return l
}
