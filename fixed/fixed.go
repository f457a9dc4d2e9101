// Package fixed implements chapter 1, fixed-point arithmetic; see shared/doc/01-fixed.md.
package fixed

import (
	"cmp"

	"frustum/api"
)

// maxOperand limits the operands of RoundDiv, so that twice a remainder still is an int.
const maxOperand = 1 << 62

// exactDivisor is the divisor from which on n*One may exceed maxOperand in Ratio.
const exactDivisor = maxOperand / api.One

// Saturate returns x limited to [-MaxValue, MaxValue].
func Saturate(x int) int {
	return Clamp(x, -api.MaxValue, api.MaxValue)
}

// Add returns the saturated sum of the saturated arguments.
func Add(a, b int) int {
	return Saturate(Saturate(a) + Saturate(b))
}

// Sub returns the saturated difference of the saturated arguments.
func Sub(a, b int) int {
	return Saturate(Saturate(a) - Saturate(b))
}

// Mul returns the rounded and saturated product of the saturated arguments.
func Mul(a, b int) int {
	return Saturate(RoundDiv(Saturate(a)*Saturate(b), api.One))
}

// Div returns the rounded and saturated quotient of the saturated arguments; a divisor of 0 gives the limit with the sign of a, or 0.
func Div(a, b int) int {
	n, d := Saturate(a)*api.One, Saturate(b)
	if d == 0 {
		return api.MaxValue * cmp.Compare(n, 0)
	}
	if d < 0 {
		// RoundDiv takes positive divisors only.
		n, d = -n, -d
	}
	return Saturate(RoundDiv(n, d))
}

// RoundDiv returns n/d rounded to the nearest integer, halves away from zero, or 0 if n or d is out of range.
func RoundDiv(n, d int) int {
	if d < 1 || d > maxOperand || n < -maxOperand || n > maxOperand {
		return 0
	}
	quotient, remainder := n/d, n%d
	// The quotient is truncated, so the remainder has the sign of n and tells in which direction away from zero is.
	switch {
	case 2*remainder >= d:
		return quotient + 1
	case -2*remainder >= d:
		return quotient - 1
	}
	return quotient
}

// Ratio returns n/d as a fixed-point number in [0, One].
func Ratio(n, d int) int {
	switch {
	case d < 1 || d > maxOperand || n < 1:
		return 0
	case n >= d:
		return api.One
	case d < exactDivisor:
		return RoundDiv(n*api.One, d)
	}
	// n*One could overflow here, so the divisor is scaled down instead.
	return min(api.One, RoundDiv(n, RoundDiv(d, api.One)))
}

// Sqrt returns the square root of the saturated argument, rounded down, or 0 for a negative one.
func Sqrt(x int) int {
	square := Saturate(x) * api.One
	root := 0
	// The square is less than 2^46, so that bit 22 is the highest one that a root can have.
	for bit := 1 << 22; bit > 0; bit >>= 1 {
		next := root | bit
		if next*next <= square {
			root = next
		}
	}
	return root
}

// Floor returns the largest multiple of One that is not greater than the saturated argument, saturated.
func Floor(x int) int {
	x = Saturate(x)
	// A second saturation, because the multiple below -MaxValue is out of range.
	return Saturate(x - Fract(x))
}

// Fract returns the distance of the saturated argument from the largest multiple of One that is not greater.
func Fract(x int) int {
	// One is a power of two, so that the low bits are this distance for negative numbers, too.
	return Saturate(x) & (api.One - 1)
}

// Clamp returns x limited to [low, high], or low if low is greater than high.
func Clamp(x, low, high int) int {
	// The lower limit is applied last, so that it prevails if the limits are the wrong way round.
	return max(low, min(x, high))
}

// Lerp returns the number at t, limited to [0, One], on the way from a to b.
func Lerp(a, b, t int) int {
	return Add(a, Mul(Sub(b, a), Clamp(t, 0, api.One)))
}

// Wrap returns x reduced modulo 2^32 to [-2^31, 2^31 - 1].
func Wrap(x int) int {
	return int(int32(x))
}
