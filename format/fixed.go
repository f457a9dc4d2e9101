package format

import (
	"strconv"
	"strings"

	"frustum/api"
)

// maxDigits is the largest number of digits behind the point; 10^5 is more than One, so that so many always suffice.
const maxDigits = 5

// FormatFixed returns the decimal form of a fixed-point number, or the empty string if it is not saturated.
func FormatFixed(x int) string {
	switch {
	case x < -api.MaxValue || x > api.MaxValue:
		return ""
	case x < 0:
		return "-" + FormatFixed(-x)
	}
	return FormatInt(x/api.One) + "." + formatRemainder(x%api.One)
}

// formatRemainder returns the fewest digits behind the point that are read as r, which is less than One.
func formatRemainder(r int) string {
	digits := 1
	for digits < maxDigits && !isExact(r, powerOfTen(digits)) {
		digits++
	}
	return padZeros(FormatInt(toDigits(r, powerOfTen(digits))), digits)
}

// isExact reports whether digits behind the point, as many as the power of ten has zeros, are read as r.
func isExact(r, power int) bool {
	f := toDigits(r, power)
	return f < power && fromDigits(f, power) == r
}

// ParseFixed returns the fixed-point number with a decimal form, which may have more digits than necessary.
func ParseFixed(s string) (int, api.Errno) {
	magnitude, negative := strings.CutPrefix(s, "-")
	whole, digits, found := strings.Cut(magnitude, ".")
	if !found || !isNatural(whole) || !isDigits(digits) || len(digits) > maxDigits {
		return 0, api.ErrSyntax
	}
	value, code := parseMagnitude(whole, digits)
	switch {
	case code != api.OK:
		return 0, code
	case negative && value == 0:
		return 0, api.ErrSyntax
	case negative:
		return -value, api.OK
	}
	return value, api.OK
}

// parseMagnitude returns the number with these digits before and behind the point, or ErrRange if it is not saturated.
func parseMagnitude(whole, digits string) (int, api.Errno) {
	i, code := ParseInt(whole)
	// An integer above MaxValue is rejected before it is multiplied, because the product could overflow.
	if code != api.OK || i > api.MaxValue {
		return 0, api.ErrRange
	}
	// Atoi cannot fail, because at most maxDigits digits are left.
	f, _ := strconv.Atoi(digits)
	value := i*api.One + fromDigits(f, powerOfTen(len(digits)))
	if value > api.MaxValue {
		return 0, api.ErrRange
	}
	return value, api.OK
}

// powerOfTen returns 10^k.
func powerOfTen(k int) int {
	result := 1
	for range k {
		result *= 10
	}
	return result
}

// toDigits returns the multiple of 1/power that is nearest to the remainder r.
func toDigits(r, power int) int {
	return roundDiv(r*power, api.One)
}

// fromDigits returns the remainder that is nearest to f/power.
func fromDigits(f, power int) int {
	return roundDiv(f*api.One, power)
}

// roundDiv returns n/d rounded to the nearest integer, halves away from zero, for numbers that are not negative.
// It is here because this package depends on package api only, so that it cannot use that of package fixed.
func roundDiv(n, d int) int {
	return (n + d/2) / d
}
