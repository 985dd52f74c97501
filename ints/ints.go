// Package ints computes with 64-bit integers and tells when a result does not fit into one: see doc/01-ints.md.
package ints

import (
	"math"
	"math/bits"
)

// Add returns a + b, or false if that is not an int64.
func Add(a, b int64) (int64, bool) {
	sum := a + b
	// Only a sum of numbers of one sign can leave the range, and then it has wrapped round to the other sign.
	if (a < 0) == (b < 0) && (sum < 0) != (a < 0) {
		return 0, false
	}
	return sum, true
}

// Sub returns a - b, or false if that is not an int64.
func Sub(a, b int64) (int64, bool) {
	diff := a - b
	// It is not Add(a, -b): the least int64 has no negative.
	if (a < 0) != (b < 0) && (diff < 0) != (a < 0) {
		return 0, false
	}
	return diff, true
}

// Mul returns a times b, or false if that is not an int64.
func Mul(a, b int64) (int64, bool) {
	high, low := bits.Mul64(size(a), size(b))
	if high != 0 {
		return 0, false
	}
	if (a < 0) != (b < 0) {
		return below(low)
	}
	return above(low)
}

// Share returns a times b divided by c, rounded down, or false if a or b is below 0, c is below 1, or the quotient is not an int64.
func Share(a, b, c int64) (int64, bool) {
	if a < 0 || b < 0 || c < 1 {
		return 0, false
	}
	high, low := bits.Mul64(uint64(a), uint64(b))
	// Then the quotient has more than 64 bits, and Div64 would panic.
	if high >= uint64(c) {
		return 0, false
	}
	quotient, _ := bits.Div64(high, low, uint64(c))
	return above(quotient)
}

// Sum returns the sum of l, or false if that is not an int64.
func Sum(l []int64) (int64, bool) {
	// 128 bits, so that a sum on the way may leave the range and come back.
	var high, low, carry uint64
	for _, x := range l {
		low, carry = bits.Add64(low, uint64(x), 0)
		high, _ = bits.Add64(high, signHalf(x), carry)
	}
	if high != signHalf(int64(low)) {
		return 0, false
	}
	return int64(low), true
}

// Floor returns the greatest multiple of b that is at most a, or false if b is below 1 or that multiple is not an int64.
func Floor(a, b int64) (int64, bool) {
	if b < 1 {
		return 0, false
	}
	rest := a % b
	// Go rounds towards 0, so the rest of a negative number is measured from the multiple above it.
	if rest < 0 {
		rest += b
	}
	return Sub(a, rest)
}

// size returns a without its sign. It is unsigned because the size of the least int64 is not an int64.
func size(a int64) uint64 {
	if a < 0 {
		return -uint64(a)
	}
	return uint64(a)
}

// above returns the number of that size that is not negative.
func above(size uint64) (int64, bool) {
	if size > math.MaxInt64 {
		return 0, false
	}
	return int64(size), true
}

// below returns the negative of that size, for which there is room for one more than above 0.
func below(size uint64) (int64, bool) {
	if size > 1<<63 {
		return 0, false
	}
	return int64(-size), true
}

// signHalf returns the upper half of a as a number of 128 bits.
func signHalf(a int64) uint64 {
	return uint64(a >> 63)
}
