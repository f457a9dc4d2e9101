package texel

import (
	"math"
	"testing"

	"frustum/api"
)

const (
	one      = api.One
	largest  = math.MaxInt
	smallest = math.MinInt
)

// isBits reports whether a normalized integer may have this number of bits.
func isBits(bits int) bool {
	return bits >= 1 && bits <= 16
}

// power returns 2^n.
func power(n int) int {
	result := 1
	for range n {
		result *= 2
	}
	return result
}

// nearest returns n/d rounded to the nearest integer, halves up, for numbers that are not negative.
func nearest(n, d int) int {
	return (2*n + d) / (2 * d)
}

// exactUNorm returns what UNorm must return. No product of its numbers exceeds 2^33, so that ints are exact.
func exactUNorm(x, bits int) int {
	switch {
	case !isBits(bits) || x < 0:
		return 0
	case x > one:
		return power(bits) - 1
	}
	return nearest(x*(power(bits)-1), one)
}

// exactFromUNorm returns what FromUNorm must return, in exact ints, too.
func exactFromUNorm(n, bits int) int {
	switch {
	case !isBits(bits) || n < 0:
		return 0
	case n >= power(bits):
		return one
	}
	return nearest(n*one, power(bits)-1)
}

// widths returns the numbers of bits that a normalized integer may have, those next to them, and some that look like them if bits are dropped.
func widths() []int {
	result := []int{32, 63, 64, 65, 256 + 8, 1<<32 + 8, 1 << 62, largest, largest - 1, smallest, smallest + 1, smallest + 8, -8, 8 - 1<<32}
	for bits := -1; bits <= 18; bits++ {
		result = append(result, bits)
	}
	return result
}

// farNumbers returns numbers that must be limited, some of which look like small ones if bits are dropped.
func farNumbers() []int {
	result := []int{smallest, smallest + 1, largest, largest - 1}
	for shift := 17; shift < 63; shift++ {
		for near := -2; near <= 2; near++ {
			result = append(result, power(shift)+near, -power(shift)+near)
		}
	}
	return result
}

func TestP9_1UNorm(t *testing.T) {
	for _, c := range []struct{ x, bits, want int }{
		{0, 8, 0}, {one, 8, 255}, {one / 2, 8, 128}, {-1, 8, 0}, {one + 1, 8, 255}, {smallest, 8, 0}, {largest, 8, 255},
		{128, 8, 0}, {129, 8, 1}, {one - 129, 8, 254}, {one - 128, 8, 255}, {one / 4, 8, 64}, {257, 8, 1},
		{one / 2, 1, 1}, {one/2 - 1, 1, 0}, {one, 1, 1}, {one / 2, 2, 2}, {one / 2, 5, 16}, {one / 2, 6, 32}, {one / 2, 10, 512}, {one / 2, 16, 32768},
		{one/2 - 1, 16, 32767}, {1, 16, 1}, {one - 1, 16, 65534}, {one, 16, 65535}, {one / 2, 17, 0}, {one, 17, 0}, {one, 0, 0}, {one, -1, 0},
		{one, 18, 0}, {one, 64, 0}, {one, largest, 0}, {one, smallest, 0}, {largest, largest, 0}, {smallest, smallest, 0}, {largest, 16, 65535}, {smallest, 1, 0},
	} {
		if got := UNorm(c.x, c.bits); got != c.want {
			t.Errorf("UNorm(%d, %d) is %d, want %d", c.x, c.bits, got, c.want)
		}
	}
}

func TestP9_1FromUNorm(t *testing.T) {
	for _, c := range []struct{ n, bits, want int }{
		{0, 8, 0}, {255, 8, one}, {128, 8, 32897}, {127, 8, 32639}, {1, 8, 257}, {254, 8, 65279}, {-1, 8, 0}, {256, 8, one}, {smallest, 8, 0}, {largest, 8, one},
		{0, 1, 0}, {1, 1, one}, {2, 1, one}, {1, 2, 21845}, {2, 2, 43691}, {3, 2, one}, {1, 5, 2114}, {1, 6, 1040}, {1, 10, 64}, {1023, 10, one},
		{1, 16, 1}, {32767, 16, 32767}, {32768, 16, 32769}, {65534, 16, 65535}, {65535, 16, one}, {65536, 16, one}, {1, 17, 0}, {1, 0, 0}, {1, -1, 0}, {0, 0, 0},
		{1, 18, 0}, {1, 64, 0}, {1, largest, 0}, {1, smallest, 0}, {largest, largest, 0}, {smallest, smallest, 0}, {largest, 16, one}, {smallest, 1, 0},
	} {
		if got := FromUNorm(c.n, c.bits); got != c.want {
			t.Errorf("FromUNorm(%d, %d) is %d, want %d", c.n, c.bits, got, c.want)
		}
	}
}

// checkAll compares a function with its definition for all numbers from 0 to One, the numbers next to them, and those far beyond.
func checkAll(t *testing.T, name string, function, definition func(n, bits int) int) {
	t.Helper()
	numbers := farNumbers()
	for n := -300; n <= one+300; n++ {
		numbers = append(numbers, n)
	}
	for _, bits := range widths() {
		for _, n := range numbers {
			if got, want := function(n, bits), definition(n, bits); got != want {
				t.Errorf("%s(%d, %d) is %d, want %d", name, n, bits, got, want)
			}
		}
	}
}

// TestP9_1All checks, among others, all numbers next to the rounding limits of UNorm, and all normalized integers of each number of bits.
func TestP9_1All(t *testing.T) {
	checkAll(t, "UNorm", UNorm, exactUNorm)
	checkAll(t, "FromUNorm", FromUNorm, exactFromUNorm)
}
