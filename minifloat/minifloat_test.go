package minifloat

import (
	"math"
	"slices"
	"sort"
	"testing"

	"frustum/api"
)

const (
	one  = api.One
	most = api.MaxValue
)

var (
	// tiny has the magnitudes 0, 1/2, 1, 3/2, 2 and 3.
	tiny         = api.FloatFormat{Exponent: 2, Mantissa: 1, Signed: true}
	unsignedTiny = api.FloatFormat{Exponent: 2, Mantissa: 1}
	// byteFormat has 8 bits and 240 as its largest number.
	byteFormat = api.FloatFormat{Exponent: 4, Mantissa: 3, Signed: true}
	// finest has 1/65536, the unit of fixed-point numbers, as its smallest magnitude.
	finest       = api.FloatFormat{Exponent: 4, Mantissa: 10, Signed: true}
	unsignedHalf = api.FloatFormat{Exponent: 5, Mantissa: 10}
)

// sized is a call of Encode, Decode or Quantize with the result that the document requires.
type sized struct {
	f       api.FloatFormat
	x, want int
}

func checkSized(t *testing.T, name string, function func(api.FloatFormat, int) int, cases []sized) {
	t.Helper()
	for _, c := range cases {
		if got := function(c.f, c.x); got != c.want {
			t.Errorf("%s(%v, %#x) is %#x, want %#x", name, c.f, c.x, got, c.want)
		}
	}
}

func validFormats() []api.FloatFormat {
	var formats []api.FloatFormat
	for exponent := 2; exponent <= 5; exponent++ {
		for mantissa := 1; mantissa <= 10; mantissa++ {
			formats = append(formats, api.FloatFormat{Exponent: exponent, Mantissa: mantissa})
			formats = append(formats, api.FloatFormat{Exponent: exponent, Mantissa: mantissa, Signed: true})
		}
	}
	return formats
}

// invalidFormats returns formats with one or two invalid sizes, which are as small or as large as possible, or next to valid ones.
func invalidFormats() []api.FloatFormat {
	exponents := []int{math.MinInt, -3, -1, 0, 1, 6, 7, 11, 63, 64, 1<<32 + 5, math.MaxInt}
	mantissas := []int{math.MinInt, -10, -1, 0, 11, 12, 23, 63, 64, 1<<32 + 10, math.MaxInt}
	var formats []api.FloatFormat
	for _, signed := range []bool{false, true} {
		for _, exponent := range exponents {
			for _, mantissa := range append([]int{1, 5, 10}, mantissas...) {
				formats = append(formats, api.FloatFormat{Exponent: exponent, Mantissa: mantissa, Signed: signed})
			}
		}
		for exponent := 2; exponent <= 5; exponent++ {
			for _, mantissa := range mantissas {
				formats = append(formats, api.FloatFormat{Exponent: exponent, Mantissa: mantissa, Signed: signed})
			}
		}
	}
	return formats
}

// power returns 2^n.
func power(n int) int {
	result := 1
	for range n {
		result *= 2
	}
	return result
}

// patternCount returns the number of patterns of a valid format.
func patternCount(f api.FloatFormat) int {
	if f.Signed {
		return power(1 + f.Exponent + f.Mantissa)
	}
	return power(f.Exponent + f.Mantissa)
}

// fieldsOf takes a pattern apart as the chapter's definitions say.
func fieldsOf(f api.FloatFormat, p int) (sign, e, m int) {
	m = p % power(f.Mantissa)
	e = p / power(f.Mantissa) % power(f.Exponent)
	sign = p / power(f.Mantissa) / power(f.Exponent)
	return sign, e, m
}

// denoted returns the exact number of a finite pattern, because a float64 has enough bits for it.
func denoted(f api.FloatFormat, p int) float64 {
	sign, e, m := fieldsOf(f, p)
	bias := power(f.Exponent-1) - 1
	number := math.Ldexp(float64(m), 1-bias-f.Mantissa)
	if e != 0 {
		number = math.Ldexp(float64(power(f.Mantissa)+m), e-bias-f.Mantissa)
	}
	if sign == 1 {
		return -number
	}
	return number
}

// magnitudes returns the exact numbers of the finite patterns without sign, in the order of their patterns.
func magnitudes(f api.FloatFormat) []float64 {
	var numbers []float64
	for p := range power(f.Mantissa) * (power(f.Exponent) - 1) {
		numbers = append(numbers, denoted(f, p))
	}
	return numbers
}

func limited(x int) int {
	return max(-most, min(x, most))
}

// nearest returns the pattern that Encode must give, by comparing the distances of the magnitudes on both sides of a number.
func nearest(f api.FloatFormat, numbers []float64, x int) int {
	x = limited(x)
	if x < 0 && !f.Signed {
		return 0
	}
	magnitude := math.Abs(float64(x)) / one
	above := sort.SearchFloat64s(numbers, magnitude)
	p := min(above, len(numbers)-1)
	if 0 < above && above < len(numbers) {
		up, down := numbers[above]-magnitude, magnitude-numbers[above-1]
		_, _, m := fieldsOf(f, above)
		if down < up || down == up && m%2 == 1 {
			p = above - 1
		}
	}
	if x < 0 && p != 0 {
		return p + power(f.Exponent+f.Mantissa)
	}
	return p
}

// spread returns numbers of all magnitudes from the whole range of int, in ascending order.
func spread(count int) []int {
	values := []int{0, math.MinInt, math.MinInt + 1, math.MaxInt, math.MaxInt - 1, most, most + 1, -most, -most - 1}
	for shift := range 63 {
		for near := 1<<shift - 1; near <= 1<<shift+1; near++ {
			values = append(values, near, -near)
		}
	}
	state := uint64(1)
	for range count {
		state = state*6364136223846793005 + 1442695040888963407
		values = append(values, int(state)>>(state>>32%63))
	}
	slices.Sort(values)
	return values
}

// criticalNumbers returns the fixed-point numbers next to each magnitude, and to each middle between two, with both signs.
func criticalNumbers(numbers []float64) []int {
	var values []int
	for i, number := range numbers {
		centers := []float64{number * one}
		if i > 0 {
			centers = append(centers, (numbers[i-1]+number)/2*one)
		}
		for _, center := range centers {
			for near := int(center) - 1; near <= int(center)+2; near++ {
				values = append(values, near, -near)
			}
		}
	}
	slices.Sort(values)
	return slices.Compact(values)
}

// noPatterns returns ints that are not patterns of a valid format, some of which look like one if bits are dropped.
func noPatterns(f api.FloatFormat) []int {
	count := patternCount(f)
	ints := []int{math.MinInt, math.MinInt + 1, -1 << 32, -count - 1, -count, -count / 2, -2, -1, math.MaxInt, math.MaxInt - 1}
	for _, p := range []int{0, 1, power(f.Mantissa), count/2 - 1, count / 2, count - 1} {
		ints = append(ints, p+count, p+2*count, p+1<<16, p+1<<32, p+1<<62, p-count, p-1<<32, p-1<<62)
	}
	return ints
}

func TestP2_1Valid(t *testing.T) {
	for _, f := range validFormats() {
		if !Valid(f) {
			t.Errorf("%v is not valid", f)
		}
	}
	for _, f := range append(invalidFormats(), api.FloatFormat{}) {
		if Valid(f) {
			t.Errorf("%v is valid", f)
		}
	}
}

func TestP2_1Bits(t *testing.T) {
	for _, c := range []struct {
		f    api.FloatFormat
		want int
	}{
		{Half(), 16}, {unsignedHalf, 15}, {tiny, 4}, {unsignedTiny, 3}, {byteFormat, 8}, {finest, 15},
		{api.FloatFormat{}, 0}, {api.FloatFormat{Exponent: 8, Mantissa: 7, Signed: true}, 0},
	} {
		if got := Bits(c.f); got != c.want {
			t.Errorf("Bits(%v) is %d, want %d", c.f, got, c.want)
		}
	}
	for _, f := range validFormats() {
		if got := Bits(f); got < 0 || got > 16 || power(got) != patternCount(f) {
			t.Errorf("Bits(%v) is %d", f, got)
		}
	}
	for _, f := range invalidFormats() {
		if got := Bits(f); got != 0 {
			t.Errorf("Bits(%v) is %d", f, got)
		}
	}
}

func TestP2_1Half(t *testing.T) {
	if got, want := Half(), (api.FloatFormat{Exponent: 5, Mantissa: 10, Signed: true}); got != want {
		t.Errorf("Half is %v", got)
	}
}

func TestP2_1IsFinite(t *testing.T) {
	for _, c := range []struct {
		f    api.FloatFormat
		bits int
		want bool
	}{
		{Half(), 0, true}, {Half(), 0x8000, true}, {Half(), 0x7bff, true}, {Half(), 0xfbff, true},
		{Half(), 0x7c00, false}, {Half(), 0xfc00, false}, {Half(), 0x7c01, false}, {Half(), 0xffff, false}, {Half(), 0x10000, false},
		{unsignedHalf, 0x7bff, true}, {unsignedHalf, 0x7c00, false}, {unsignedHalf, 0x8000, false},
		{tiny, 5, true}, {tiny, 6, false}, {tiny, 7, false}, {tiny, 8, true}, {tiny, 13, true}, {tiny, 14, false}, {tiny, 15, false}, {tiny, 16, false},
		{unsignedTiny, 5, true}, {unsignedTiny, 6, false}, {unsignedTiny, 7, false}, {unsignedTiny, 8, false}, {unsignedTiny, -1, false},
	} {
		if got := IsFinite(c.f, c.bits); got != c.want {
			t.Errorf("IsFinite(%v, %#x) is %t", c.f, c.bits, got)
		}
	}
	for _, f := range validFormats() {
		for p := range patternCount(f) {
			_, e, _ := fieldsOf(f, p)
			if got, want := IsFinite(f, p), e != power(f.Exponent)-1; got != want {
				t.Fatalf("IsFinite(%v, %#x) is %t", f, p, got)
			}
		}
		for _, p := range noPatterns(f) {
			if IsFinite(f, p) {
				t.Errorf("IsFinite(%v, %#x), which is no pattern", f, p)
			}
		}
	}
	for _, f := range invalidFormats() {
		for _, p := range []int{math.MinInt, -1, 0, 1, 2, 0x3c00, 1 << 40, math.MaxInt} {
			if IsFinite(f, p) {
				t.Errorf("IsFinite(%v, %#x), which is an invalid format", f, p)
			}
		}
	}
}

func TestP2_2DecodeTiny(t *testing.T) {
	const half = one / 2
	checkSized(t, "Decode", Decode, []sized{
		{tiny, 0, 0}, {tiny, 1, half}, {tiny, 2, one}, {tiny, 3, 3 * half}, {tiny, 4, 2 * one}, {tiny, 5, 3 * one},
		{tiny, 6, most}, {tiny, 7, 0},
		{tiny, 8, 0}, {tiny, 9, -half}, {tiny, 10, -one}, {tiny, 11, -3 * half}, {tiny, 12, -2 * one}, {tiny, 13, -3 * one},
		{tiny, 14, -most}, {tiny, 15, 0}, {tiny, 16, 0},
		{unsignedTiny, 1, half}, {unsignedTiny, 5, 3 * one}, {unsignedTiny, 6, most}, {unsignedTiny, 7, 0}, {unsignedTiny, 8, 0}, {unsignedTiny, 9, 0},
	})
}

func TestP2_2DecodeHalf(t *testing.T) {
	checkSized(t, "Decode", Decode, []sized{
		{Half(), 0, 0}, {Half(), 0x8000, 0}, {Half(), 0x3c00, one}, {Half(), 0xbc00, -one}, {Half(), 0x3555, 21840}, {Half(), 0x4248, 205824},
		{Half(), 0x0001, 0}, {Half(), 0x8001, 0}, {Half(), 0x007f, 0}, {Half(), 0x807f, 0},
	})
	// The unit of subnormal numbers is 1/256 of that of fixed-point numbers.
	checkSized(t, "Decode of halves", Decode, []sized{
		{Half(), 0x0080, 1}, {Half(), 0x8080, -1}, {Half(), 0x0081, 1}, {Half(), 0x017f, 1}, {Half(), 0x0180, 2}, {Half(), 0x8180, -2},
		{Half(), 0x0280, 3}, {Half(), 0x8280, -3}, {Half(), 0x03ff, 4}, {Half(), 0x0400, 4}, {Half(), 0x0401, 4}, {Half(), 0x0480, 5},
		{Half(), 0x047f, 4}, {Half(), 0x847f, -4}, {Half(), 0x8480, -5}, {Half(), 0x13ff, 64}, {Half(), 0x1400, 64},
		{unsignedHalf, 0x0080, 1}, {unsignedHalf, 0x007f, 0},
	})
	checkSized(t, "Decode of large patterns", Decode, []sized{
		{Half(), 0x6fff, 8188 * one}, {Half(), 0xefff, -8188 * one}, {Half(), 0x7000, most}, {Half(), 0xf000, -most}, {Half(), 0x7001, most},
		{Half(), 0x7bff, most}, {Half(), 0xfbff, -most}, {Half(), 0x7c00, most}, {Half(), 0xfc00, -most},
		{Half(), 0x7c01, 0}, {Half(), 0x7e00, 0}, {Half(), 0x7fff, 0}, {Half(), 0xfc01, 0}, {Half(), 0xfe00, 0}, {Half(), 0xffff, 0},
		{unsignedHalf, 0x7bff, most}, {unsignedHalf, 0x7c00, most}, {unsignedHalf, 0x7c01, 0},
	})
	checkSized(t, "Decode of ints that are no patterns", Decode, []sized{
		{Half(), 0x10000, 0}, {Half(), 0x13c00, 0}, {Half(), -1, 0}, {Half(), -0x3c00, 0}, {Half(), 0x3c00 - 0x10000, 0}, {Half(), 1<<32 + 0x3c00, 0},
		{Half(), math.MaxInt, 0}, {Half(), math.MinInt, 0}, {unsignedHalf, 0xbc00, 0},
	})
}

func TestP2_2DecodeEveryPattern(t *testing.T) {
	for _, f := range validFormats() {
		for p := range patternCount(f) {
			sign, e, m := fieldsOf(f, p)
			want := 0
			switch {
			case e < power(f.Exponent)-1:
				// math.Round rounds halves away from zero.
				want = limited(int(math.Round(denoted(f, p) * one)))
			case m == 0 && sign == 0:
				want = most
			case m == 0:
				want = -most
			}
			if got := Decode(f, p); got != want {
				t.Fatalf("Decode(%v, %#x) is %d, want %d", f, p, got, want)
			}
		}
		for _, p := range noPatterns(f) {
			if got := Decode(f, p); got != 0 {
				t.Fatalf("Decode(%v, %#x) is %d, but it is no pattern", f, p, got)
			}
		}
	}
}

func TestP2_2DecodeOfInvalidFormats(t *testing.T) {
	for _, f := range invalidFormats() {
		for _, p := range []int{math.MinInt, -1, 0, 1, 2, 3, 0x3c00, 0x7c00, 1 << 40, math.MaxInt} {
			if got := Decode(f, p); got != 0 {
				t.Errorf("Decode(%v, %#x) is %d", f, p, got)
			}
		}
	}
}

func TestP2_3EncodeTiny(t *testing.T) {
	const quarter = one / 4
	checkSized(t, "Encode", Encode, []sized{
		{tiny, 0, 0}, {tiny, quarter, 0}, {tiny, quarter + 1, 1}, {tiny, 2 * quarter, 1}, {tiny, 3*quarter - 1, 1}, {tiny, 3 * quarter, 2},
		{tiny, one, 2}, {tiny, 5 * quarter, 2}, {tiny, 5*quarter + 1, 3}, {tiny, 7*quarter - 1, 3}, {tiny, 7 * quarter, 4},
		{tiny, 2 * one, 4}, {tiny, 5 * one / 2, 4}, {tiny, 5*one/2 + 1, 5}, {tiny, 3 * one, 5},
	})
	checkSized(t, "Encode beyond the largest number", Encode, []sized{
		{tiny, 3*one + 1, 5}, {tiny, 7*one/2 - 1, 5}, {tiny, 7 * one / 2, 5}, {tiny, 4 * one, 5}, {tiny, 100 * one, 5}, {tiny, most, 5},
		{tiny, most + 1, 5}, {tiny, math.MaxInt, 5}, {tiny, -4 * one, 13}, {tiny, -most, 13}, {tiny, math.MinInt, 13},
		{unsignedTiny, 3*one + 1, 5}, {unsignedTiny, math.MaxInt, 5},
	})
	checkSized(t, "Encode of negative numbers", Encode, []sized{
		{tiny, -1, 0}, {tiny, -quarter, 0}, {tiny, -quarter - 1, 9}, {tiny, -3*quarter + 1, 9}, {tiny, -3 * quarter, 10}, {tiny, -one, 10},
		{tiny, -3 * one, 13}, {unsignedTiny, -1, 0}, {unsignedTiny, -one, 0}, {unsignedTiny, -3 * one, 0}, {unsignedTiny, -most, 0},
		{unsignedTiny, math.MinInt, 0}, {unsignedTiny, one, 2},
	})
}

func TestP2_3EncodeHalf(t *testing.T) {
	checkSized(t, "Encode", Encode, []sized{
		{Half(), 0, 0}, {Half(), one, 0x3c00}, {Half(), -one, 0xbc00}, {Half(), one / 2, 0x3800}, {Half(), 3 * one / 2, 0x3e00},
		{Half(), 1, 0x0100}, {Half(), -1, 0x8100}, {Half(), 2, 0x0200}, {Half(), 3, 0x0300}, {Half(), 4, 0x0400}, {Half(), 5, 0x0500},
		{Half(), 2047, 0x27ff}, {Half(), 2048, 0x2800}, {unsignedHalf, 1, 0x0100}, {unsignedHalf, -1, 0},
	})
	checkSized(t, "Encode of numbers between two patterns", Encode, []sized{
		{Half(), 2049, 0x2800}, {Half(), 2051, 0x2802}, {Half(), 4095, 0x2c00}, {Half(), -2049, 0xa800}, {Half(), -2051, 0xa802},
		{Half(), 2049 * one, 0x6800}, {Half(), 2049*one - 1, 0x6800}, {Half(), 2049*one + 1, 0x6801}, {Half(), 2051 * one, 0x6802},
		{Half(), 2051*one - 1, 0x6801}, {Half(), -2049 * one, 0xe800}, {Half(), -2049*one - 1, 0xe801}, {Half(), -2051 * one, 0xe802},
		{Half(), 2047*one + one/2 - 1, 0x67ff}, {Half(), 2047*one + one/2, 0x6800}, {Half(), -2047*one - one/2, 0xe800},
	})
	checkSized(t, "Encode at the limits", Encode, []sized{
		{Half(), 8188 * one, 0x6fff}, {Half(), 8190*one - 1, 0x6fff}, {Half(), 8190 * one, 0x7000}, {Half(), most, 0x7000}, {Half(), most + 1, 0x7000},
		{Half(), 1 << 33, 0x7000}, {Half(), math.MaxInt, 0x7000}, {Half(), -most, 0xf000}, {Half(), -1 << 33, 0xf000}, {Half(), math.MinInt, 0xf000},
		{byteFormat, 240 * one, 0x77}, {byteFormat, 232 * one, 0x76}, {byteFormat, 232*one + 1, 0x77}, {byteFormat, 240*one + 1, 0x77},
		{byteFormat, 248 * one, 0x77}, {byteFormat, -256 * one, 0xf7}, {byteFormat, math.MaxInt, 0x77}, {byteFormat, math.MinInt, 0xf7},
		{finest, 1, 1}, {finest, -1, 0x4001}, {finest, 0, 0}, {finest, 1023, 0x3ff}, {finest, 1024, 0x400},
	})
}

func TestP2_3EncodeGivesTheNearestPattern(t *testing.T) {
	arbitrary := spread(500)
	for _, f := range validFormats() {
		numbers := magnitudes(f)
		for _, values := range [][]int{arbitrary, criticalNumbers(numbers)} {
			for _, x := range values {
				if got, want := Encode(f, x), nearest(f, numbers, x); got != want {
					t.Fatalf("Encode(%v, %d) is %#x, want %#x", f, x, got, want)
				}
			}
		}
	}
}

func TestP2_3EncodeOfInvalidFormats(t *testing.T) {
	for _, f := range invalidFormats() {
		for _, x := range []int{math.MinInt, -most, -one, -1, 0, 1, one, 3 * one, most, math.MaxInt} {
			if got := Encode(f, x); got != 0 {
				t.Errorf("Encode(%v, %d) is %#x", f, x, got)
			}
			if got := Quantize(f, x); got != 0 {
				t.Errorf("Quantize(%v, %d) is %d", f, x, got)
			}
		}
	}
}

func TestP2_3Quantize(t *testing.T) {
	checkSized(t, "Quantize", Quantize, []sized{
		{Half(), one, one}, {Half(), 2049 * one, 2048 * one}, {Half(), 2051 * one, 2052 * one}, {Half(), -2049 * one, -2048 * one},
		{Half(), 1, 1}, {Half(), -3, -3}, {Half(), one + 1, one}, {Half(), one + 32, one}, {Half(), one + 33, one + 64},
		{Half(), most, most}, {Half(), 8190*one - 1, 8188 * one}, {Half(), 8190 * one, most}, {Half(), math.MaxInt, most}, {Half(), math.MinInt, -most},
		{tiny, one / 4, 0}, {tiny, -one / 4, 0}, {tiny, 3 * one / 4, one}, {tiny, math.MaxInt, 3 * one}, {tiny, math.MinInt, -3 * one},
		{unsignedTiny, -one, 0}, {unsignedTiny, 9 * one, 3 * one}, {unsignedHalf, math.MinInt, 0}, {byteFormat, 17 * one, 16 * one},
	})
	for _, f := range validFormats() {
		for _, x := range spread(500) {
			if got, want := Quantize(f, x), Decode(f, Encode(f, x)); got != want {
				t.Fatalf("Quantize(%v, %d) is %d, want %d", f, x, got, want)
			}
		}
	}
}

func TestP2_4EncodeRestoresPatterns(t *testing.T) {
	for _, f := range validFormats() {
		if f.Exponent > 4 {
			continue
		}
		negativeZero := power(f.Exponent + f.Mantissa)
		for p := range patternCount(f) {
			want := p
			if p == negativeZero {
				want = 0
			}
			if got := Encode(f, Decode(f, p)); IsFinite(f, p) && got != want {
				t.Fatalf("Encode(%v) of Decode(%#x) is %#x", f, p, got)
			}
		}
	}
}

func TestP2_4QuantizeIsIdempotentForHalf(t *testing.T) {
	for _, values := range [][]int{spread(2000), criticalNumbers(magnitudes(Half()))} {
		for _, x := range values {
			once := Quantize(Half(), x)
			if twice := Quantize(Half(), once); twice != once {
				t.Fatalf("Quantize of %d is %d, and Quantize of that is %d", x, once, twice)
			}
		}
	}
}

func TestP2_4QuantizeIsMonotonic(t *testing.T) {
	arbitrary := spread(2000)
	for _, f := range validFormats() {
		for _, values := range [][]int{arbitrary, criticalNumbers(magnitudes(f))} {
			last := Quantize(f, math.MinInt)
			for _, x := range values {
				next := Quantize(f, x)
				if next < last {
					t.Fatalf("Quantize(%v, %d) is %d, less than %d of a smaller number", f, x, next, last)
				}
				last = next
			}
		}
	}
}
