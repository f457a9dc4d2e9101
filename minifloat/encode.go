package minifloat

import (
	"math/bits"

	"frustum/api"
	"frustum/fixed"
)

// Encode returns the finite pattern that is nearest to the saturated argument, or 0 for an invalid format.
func Encode(f api.FloatFormat, x int) int {
	x = fixed.Saturate(x)
	switch {
	case !Valid(f) || x < 0 && !f.Signed:
		return 0
	case x >= 0:
		return encodeMagnitude(f, x)
	}
	magnitude := encodeMagnitude(f, -x)
	if magnitude == 0 {
		// Zero has no sign, even if it is the rounded value of a negative number.
		return 0
	}
	return signBit(f) | magnitude
}

// Quantize returns the saturated argument rounded to a number of the format.
func Quantize(f api.FloatFormat, x int) int {
	return Decode(f, Encode(f, x))
}

// encodeMagnitude returns the pattern without sign bit that is nearest to a saturated number that is not negative.
func encodeMagnitude(f api.FloatFormat, x int) int {
	exponent := max(1, exponentOf(f, x))
	significand := divideToEven(x*mantissaScale(f), exponentScale(exponent))
	// Patterns are numbered in the order of their numbers, so that adding is right for subnormal significands,
	// for normal ones with their highest bit, and for those that were rounded up to the next power of two.
	nearest := (exponent-1)<<f.Mantissa + significand
	largest := specialExponent(f)<<f.Mantissa - 1
	return min(nearest, largest)
}

// exponentOf returns the exponent field that a number has if the format has no limits.
func exponentOf(f api.FloatFormat, x int) int {
	return bits.Len(uint(x)) - bits.Len(uint(api.One)) + bias(f)
}

// divideToEven returns n/d rounded to the nearest integer, halves to the even one; n is not negative and d is positive.
// A significand is even exactly if the mantissa field of its pattern is.
func divideToEven(n, d int) int {
	quotient, remainder := n/d, n%d
	if 2*remainder > d || 2*remainder == d && quotient%2 == 1 {
		return quotient + 1
	}
	return quotient
}
