package wire

import (
	"sync"
)

const (
	poly     = 0xEDB88320
	byteBits = 8
	halfBits = 4 // half a byte at a time: a table for whole bytes would be 16 times as long
	halves   = 1 << halfBits
)

var (
	shiftedOnce sync.Once
	shifted     [halves]uint32 // what to combine with, by the bits that are shifted out
)

// Sum returns the checksum of b. It works without the table, so that it reads nothing that is kept from call to call.
func Sum(b []byte) int {
	reg := ^uint32(0)
	for _, x := range b {
		reg = shift(reg^uint32(x), byteBits)
	}
	return int(^reg)
}

// SumByTable returns the same checksum as Sum, by the table, which the first call makes.
func SumByTable(b []byte) int {
	shiftedOnce.Do(fillShifted)
	reg := ^uint32(0)
	for _, x := range b {
		reg ^= uint32(x)
		reg = reg>>halfBits ^ shifted[reg%halves]
		reg = reg>>halfBits ^ shifted[reg%halves]
	}
	return int(^reg)
}

func fillShifted() {
	for i := range shifted {
		shifted[i] = shift(uint32(i), halfBits)
	}
}

// shift shifts some bits out of a register, one by one.
func shift(reg uint32, bits int) uint32 {
	for range bits {
		out := reg % 2
		reg = reg>>1 ^ out*poly
	}
	return reg
}
