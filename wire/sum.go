package wire

import (
	"sync"
)

const (
	poly     = 0xEDB88320
	halfBits = 4 // half a byte at a time: a table for whole bytes would be 16 times as long
	halves   = 1 << halfBits
)

var (
	shiftedOnce sync.Once
	shifted     [halves]uint32 // what to combine with, by the bits that are shifted out
)

// Sum returns the checksum of b.
func Sum(b []byte) int {
	shiftedOnce.Do(fillShifted)
	reg := ^uint32(0)
	for _, x := range b {
		reg ^= uint32(x)
		reg = reg>>halfBits ^ shifted[reg%halves]
		reg = reg>>halfBits ^ shifted[reg%halves]
	}
	return int(^reg)
}

func fillShifted() {
	for i := range shifted {
		shifted[i] = shift(uint32(i))
	}
}

// shift shifts half a byte out of a register, bit by bit.
func shift(reg uint32) uint32 {
	for range halfBits {
		out := reg % 2
		reg >>= 1
		if out == 1 {
			reg ^= poly
		}
	}
	return reg
}
