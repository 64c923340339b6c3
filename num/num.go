// Package num compares products of 64-bit numbers, builds bit masks, and
// computes remainders and distances of numbers that wrap around. It is layer 1:
// see shared/doc/01-num.md.
package num

import (
	"cmp"
	"math/bits"
)

// lowHalf has the bits of the lower half of a number of 64 bits.
const lowHalf = 1<<32 - 1

// mostScale is the greatest n that Scale takes.
const mostScale = 1 << 31

// Cross compares the exact products a*b and c*d: -1, 0 or 1. (P1.1)
func Cross(a, b, c, d uint64) int {
	high, low := product(a, b)
	otherHigh, otherLow := product(c, d)
	if high != otherHigh {
		return cmp.Compare(high, otherHigh)
	}
	return cmp.Compare(low, otherLow)
}

// Mask returns the number whose lowest k bits are 1, and 0 for a k outside of
// 0 to 64. (P1.1)
func Mask(k int) uint64 {
	if k < 0 || k > 64 {
		return 0
	}
	// A shift by 64 leaves 0, and 0 - 1 wraps around to 64 bits of 1.
	return uint64(1)<<k - 1
}

// Width returns the number of bits of n without leading zeros. (P1.1)
func Width(n uint64) int { return bits.Len64(n) }

// Scale returns x*n divided by 2^64, rounded down, and 0 for an n outside of
// 1 to 2^31. (P1.2)
func Scale(x uint64, n int) int {
	if n < 1 || n > mostScale {
		return 0
	}
	high, _ := product(x, uint64(n))
	return int(high)
}

// Round returns the remainder of n modulo m, from 0 to m - 1, and 0 for an m
// below 1. (P1.2)
func Round(n, m int) int {
	if m < 1 {
		return 0
	}
	rest := n % m
	// Go's remainder has the sign of n.
	if rest < 0 {
		rest += m
	}
	return rest
}

// Ahead returns the distance from from forward to to, modulo 2^32. (P1.2)
func Ahead(from, to uint32) int { return int(to - from) }

// halves returns the upper and the lower half of a, then those of b.
func halves(a, b uint64) [4]uint64 {
	return [4]uint64{a >> 32, a & lowHalf, b >> 32, b & lowHalf}
}

// product returns the upper and the lower 64 bits of a*b.
func product(a, b uint64) (uint64, uint64) {
	h := halves(a, b)
	low := h[1] * h[3]
	// A product of halves leaves room for one more half, so neither sum wraps
	// around: (2^32-1)^2 + 2^32-1 < 2^64.
	middle := h[0]*h[3] + low>>32
	other := h[1]*h[2] + middle&lowHalf
	high := h[0]*h[2] + middle>>32 + other>>32
	return high, other<<32 | low&lowHalf
}
