// Package sat is layer 1: numbers of fixed point, that do not wrap round. See shared/doc/01-sat.md.
package sat

import (
	"math"

	"aviary/api"
)

// fraction is how many bits stand behind the point.
const fraction = 16

// maxShift is the greatest power of two by which Shift divides.
const maxShift = 62

// Clamp brings a number into 32 bits.
func Clamp(x int64) int64 {
	if x < api.MinNum {
		return api.MinNum
	}
	if x > api.MaxNum {
		return api.MaxNum
	}
	return x
}

// Add is a sum that stays within 64 bits.
func Add(a, b int64) int64 {
	sum := a + b
	// A sum leaves its bounds only if both have one sign; it has the other one then.
	if a >= 0 && b >= 0 && sum < 0 {
		return math.MaxInt64
	}
	if a < 0 && b < 0 && sum >= 0 {
		return math.MinInt64
	}
	return sum
}

// Mul is a product of two numbers of 32 bits in fixed point.
func Mul(a, b int64) int64 {
	// Both are of 32 bits, so that the product is at most 2^62.
	return Clamp(Shift(Clamp(a)*Clamp(b), fraction))
}

// Shift divides by a power of two, rounding half away from nought.
func Shift(x int64, n int) int64 {
	if n <= 0 {
		return x
	}
	if n > maxShift {
		n = maxShift
	}
	if x < 0 {
		// The least number's opposite is one of 64 bits only without a sign.
		return -int64(shiftSize(-uint64(x), n))
	}
	return int64(shiftSize(uint64(x), n))
}

// shiftSize divides a size by 2^n, a half upwards; n is from 1 to maxShift.
func shiftSize(size uint64, n int) uint64 {
	// The last bit that is cut off tells the half: adding one half ahead could wrap round.
	half := size >> (n - 1) & 1
	return size>>n + half
}

// Div is a quotient in fixed point, towards nought.
func Div(a, b int64) int64 {
	a, b = Clamp(a), Clamp(b)
	if b == 0 {
		return divByNought(a)
	}
	return Clamp(a * api.One / b)
}

// divByNought is the number furthest off on a's side.
func divByNought(a int64) int64 {
	switch {
	case a > 0:
		return api.MaxNum
	case a < 0:
		return api.MinNum
	}
	return 0
}
