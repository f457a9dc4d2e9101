package depth_test

import (
	"math"
	"math/big"
	"testing"

	"frustum/api"
	"frustum/depth"
)

const (
	one      = api.One
	largest  = math.MaxInt
	smallest = math.MinInt
)

// formats returns the formats with their numbers of bits, and unknown ones.
func formats() map[api.DepthFormat]int {
	list := map[api.DepthFormat]int{api.NoDepth: 0, api.D16: 16, api.D24S8: 24}
	for _, unknown := range []api.DepthFormat{0, 4, 5, -1, -2, 16, 24, 1 << 8, 1<<32 + 1, 1<<32 + 2, largest, smallest, smallest + 2} {
		list[unknown] = -1
	}
	return list
}

// functions returns the comparison functions, and unknown ones.
func functions() []api.CompareFunc {
	return []api.CompareFunc{api.Never, api.LessThan, api.EqualTo, api.LessOrEqual, api.GreaterThan, api.Different, api.GreaterOrEqual, api.Always, 0, 9, 10, -1, -8, 1 << 8, 1<<32 + 8, largest, smallest}
}

// numbers returns depths and biases at both ends of their ranges, and beyond them.
func numbers() []int {
	return []int{0, 1, 2, -1, -2, one / 2, one/2 - 1, one/2 + 1, one - 1, one, one + 1, 2*one - 1, 2 * one, 2*one + 1, 1 - one, -one, -one - 1, -2 * one, -2*one - 1, 3 * one, 1<<29 - 1, 1 << 32, 1<<32 + 5, -1 << 32, 1 << 47, 1 << 62, largest, largest - 1, largest - one, smallest, smallest + 1, smallest + one}
}

// state makes arbitrary numbers.
type state uint64

func (s *state) next(beyond int) int {
	*s = *s*6364136223846793005 + 1442695040888963407
	return int(*s>>33) % beyond
}

func (s *state) number() int {
	if s.next(2) == 0 {
		return s.next(4*one) - one
	}
	return numbers()[s.next(len(numbers()))]
}

// limited returns x limited to a range.
func limited(x, low, high int) int {
	if x < low {
		return low
	}
	if x > high {
		return high
	}
	return x
}

// expectedQuantize returns the depth value whose distance from c*(2^bits - 1)/One is at most a half, and the greater one of two.
func expectedQuantize(bits, z int) int {
	if bits < 1 {
		return 0
	}
	c := big.NewInt(int64(limited(z, 0, one)))
	c.Mul(c, big.NewInt(1<<bits-1))
	c.Add(c, big.NewInt(one/2))
	return int(c.Quo(c, big.NewInt(one)).Int64())
}

// expectedBias returns the exact sum, limited.
func expectedBias(z, bias int) int {
	sum := big.NewInt(int64(z))
	sum.Add(sum, big.NewInt(int64(limited(bias, -one, one))))
	if sum.Sign() < 0 {
		return 0
	}
	if sum.Cmp(big.NewInt(one)) > 0 {
		return one
	}
	return int(sum.Int64())
}

// expectedCompare returns the result of a comparison by the relations that it accepts: less, equal and greater.
func expectedCompare(c api.CompareFunc, a, b int) bool {
	accepted := map[api.CompareFunc]string{2: "<", 3: "=", 4: "<=", 5: ">", 6: "<>", 7: "=>", 8: "<=>"}[c]
	for _, relation := range accepted {
		if relation == '<' && a < b || relation == '=' && a == b || relation == '>' && a > b {
			return true
		}
	}
	return false
}

// expectedTest is a second reading of P38.3.
func expectedTest(s api.DepthState, f api.DepthFormat, z, old int) (bool, int) {
	bits := formats()[f]
	n := expectedQuantize(bits, expectedBias(z, s.Bias))
	pass := !s.Test || bits < 1 || expectedCompare(s.Compare, n, old)
	if s.Test && bits >= 1 && pass && s.Write {
		return pass, n
	}
	return pass, old
}

func TestP38_1Formats(t *testing.T) {
	for f, bits := range formats() {
		if got := depth.Bits(f); got != bits {
			t.Errorf("Bits(%d) is %d, want %d", f, got, bits)
		}
		if got, want := depth.Max(f), map[int]int{-1: 0, 0: 0, 16: 65535, 24: 16777215}[bits]; got != want {
			t.Errorf("Max(%d) is %d, want %d", f, got, want)
		}
	}
}

func TestP38_1Quantize(t *testing.T) {
	for _, c := range []struct {
		f       api.DepthFormat
		z, want int
	}{
		{api.D16, one, 65535}, {api.D16, 0, 0}, {api.D16, -1, 0}, {api.D16, one + 1, 65535}, {api.D16, one / 2, 32768}, {api.D16, one/2 + 1, 32768}, {api.D16, one/2 - 1, 32767}, {api.D16, 1, 1}, {api.D16, one - 1, 65534}, {api.D24S8, one, 16777215}, {api.D24S8, 1, 256}, {api.D24S8, one / 2, 8388608}, {api.D24S8, one - 1, 16776959}, {api.D24S8, largest, 16777215}, {api.D24S8, smallest, 0}, {api.NoDepth, one, 0}, {api.NoDepth, largest, 0}, {0, one, 0}, {4, one, 0}, {-1, largest, 0},
	} {
		if got := depth.Quantize(c.f, c.z); got != c.want {
			t.Errorf("Quantize(%d, %d) is %d, want %d", c.f, c.z, got, c.want)
		}
	}
	for f, bits := range formats() {
		for _, z := range numbers() {
			if got, want := depth.Quantize(f, z), expectedQuantize(bits, z); got != want {
				t.Errorf("Quantize(%d, %d) is %d, want %d", f, z, got, want)
			}
		}
	}
}

// TestP38_4Monotonic quantizes all depths, in ascending order.
func TestP38_4Monotonic(t *testing.T) {
	for _, f := range []api.DepthFormat{api.D16, api.D24S8} {
		last := 0
		for z := -5; z <= one+5; z++ {
			got := depth.Quantize(f, z)
			if got < last || got > depth.Max(f) {
				t.Errorf("Quantize(%d, %d) is %d, behind %d", f, z, got, last)
			}
			if want := expectedQuantize(depth.Bits(f), z); got != want {
				t.Errorf("Quantize(%d, %d) is %d, want %d", f, z, got, want)
			}
			last = got
		}
	}
}

func TestP38_1Bias(t *testing.T) {
	for _, c := range []struct{ z, bias, want int }{
		{100, 50, 150}, {100, -50, 50}, {100, -150, 0}, {one, 1, one}, {one, -1, one - 1}, {0, -one, 0}, {one, -one, 0}, {0, one, one}, {0, one + 1, one}, {one, -one - 1, 0}, {-one, one, 0}, {-one, 2 * one, 0}, {2 * one, -one, one}, {2*one - 1, -one, one - 1}, {2*one - 1, -5 * one, one - 1}, {1 - one, one, 1}, {3 * one, -one, one}, {largest, largest, one}, {largest, smallest, one}, {smallest, largest, 0}, {smallest, smallest, 0}, {largest, 1, one}, {smallest, -1, 0}, {0, largest, one}, {one, smallest, 0},
	} {
		if got := depth.Bias(c.z, c.bias); got != c.want {
			t.Errorf("Bias(%d, %d) is %d, want %d", c.z, c.bias, got, c.want)
		}
	}
	for _, z := range numbers() {
		for _, bias := range numbers() {
			if got, want := depth.Bias(z, bias), expectedBias(z, bias); got != want {
				t.Errorf("Bias(%d, %d) is %d, want %d", z, bias, got, want)
			}
		}
	}
}

func TestP38_2Compare(t *testing.T) {
	results := map[api.CompareFunc]string{api.Never: "...", api.LessThan: "x..", api.EqualTo: ".x.", api.LessOrEqual: "xx.", api.GreaterThan: "..x", api.Different: "x.x", api.GreaterOrEqual: ".xx", api.Always: "xxx"}
	for i, c := range functions() {
		if got := depth.ValidCompare(c); got != (i < 8) {
			t.Errorf("ValidCompare(%d) is %t", c, got)
		}
		for k, b := range []int{6, 5, 4} {
			want := i < 8 && results[c][k] == 'x'
			if got := depth.Compare(c, 5, b); got != want {
				t.Errorf("Compare(%d, 5, %d) is %t", c, b, got)
			}
		}
		for _, a := range numbers() {
			for _, b := range numbers() {
				if got, want := depth.Compare(c, a, b), expectedCompare(c, a, b); got != want {
					t.Errorf("Compare(%d, %d, %d) is %t", c, a, b, got)
				}
			}
		}
	}
	// Exactly one of three relations holds.
	for _, a := range numbers() {
		for _, b := range numbers() {
			count := 0
			for _, c := range []api.CompareFunc{api.LessThan, api.EqualTo, api.GreaterThan} {
				if depth.Compare(c, a, b) {
					count++
				}
			}
			if count != 1 {
				t.Errorf("%d relations hold between %d and %d", count, a, b)
			}
		}
	}
}

func TestP38_2ValidState(t *testing.T) {
	for i, c := range functions() {
		for _, bias := range numbers() {
			for bits := range 4 {
				s := api.DepthState{Test: bits&1 != 0, Write: bits&2 != 0, Compare: c, Bias: bias}
				if got, want := depth.ValidState(s), i < 8 && bias >= -65536 && bias <= 65536; got != want {
					t.Errorf("ValidState of %+v is %t", s, got)
				}
			}
		}
	}
	if depth.ValidState(api.DepthState{}) {
		t.Error("the zero state is valid")
	}
}

func TestP38_3Test(t *testing.T) {
	less := api.DepthState{Test: true, Write: true, Compare: api.LessThan}
	for _, c := range []struct {
		s      api.DepthState
		f      api.DepthFormat
		z, old int
		pass   bool
		want   int
	}{
		{less, api.D16, 0, 1, true, 0}, {less, api.D16, 1, 1, false, 1}, {less, api.D16, 2, 1, false, 1}, {less, api.D16, one, 65535, false, 65535}, {less, api.D16, one - 1, 65535, true, 65534}, {less, api.D24S8, 1, 256, false, 256}, {less, api.D24S8, 1, 257, true, 256},
		// Depths that become the same depth value are equal.
		{less, api.D16, one/2 + 1, 32768, false, 32768}, {api.DepthState{Test: true, Write: true, Compare: api.EqualTo}, api.D16, one/2 + 1, 32768, true, 32768}, {api.DepthState{Test: true, Write: true, Compare: api.LessOrEqual}, api.D16, one / 2, 32768, true, 32768},
		// Without writing.
		{api.DepthState{Test: true, Compare: api.LessThan}, api.D16, 0, 9, true, 9}, {api.DepthState{Test: true, Compare: api.LessThan}, api.D16, 99, 9, false, 9}, {api.DepthState{Test: true, Compare: api.Always}, api.D16, 5, 9, true, 9},
		// Without the test, or without depth values.
		{api.DepthState{Write: true, Compare: api.Never}, api.D16, 5, 9, true, 9}, {api.DepthState{Write: true, Compare: api.Always}, api.D24S8, 5, 9, true, 9}, {api.DepthState{Test: true, Write: true, Compare: api.Never}, api.NoDepth, 5, 9, true, 9}, {api.DepthState{Test: true, Write: true, Compare: api.Always}, 0, 5, 9, true, 9}, {api.DepthState{Test: true, Write: true, Compare: api.Never}, 4, 5, smallest, true, smallest}, {api.DepthState{}, api.D16, 5, largest, true, largest},
		{api.DepthState{Test: true, Write: true, Compare: api.Always}, api.D16, 5, 9, true, 5}, {api.DepthState{Test: true, Write: true, Compare: api.Never}, api.D16, 5, 9, false, 9}, {api.DepthState{Test: true, Write: true}, api.D16, 5, 9, false, 9}, {api.DepthState{Test: true, Write: true, Compare: 9}, api.D16, 5, 9, false, 9},
		// The bias, and stored values beyond those of the format.
		{api.DepthState{Test: true, Write: true, Compare: api.LessThan, Bias: -3}, api.D16, 5, 3, true, 2}, {api.DepthState{Test: true, Write: true, Compare: api.LessThan, Bias: 3}, api.D16, 5, 8, false, 8}, {api.DepthState{Test: true, Write: true, Compare: api.GreaterThan, Bias: largest}, api.D16, 5, 7, true, 65535}, {less, api.D16, largest, 65536, true, 65535}, {less, api.D16, smallest, 0, false, 0}, {less, api.D16, 0, -1, false, -1}, {less, api.D16, one, largest, true, 65535},
	} {
		if pass, got := depth.Test(c.s, c.f, c.z, c.old); pass != c.pass || got != c.want {
			t.Errorf("the test of %d against %d with %+v and format %d is %t with %d, want %t with %d", c.z, c.old, c.s, c.f, pass, got, c.pass, c.want)
		}
	}
}

// TestP38_3Arbitrary compares Test with the second reading.
func TestP38_3Arbitrary(t *testing.T) {
	s := state(1)
	counts := map[bool]int{}
	for range 40000 {
		d := api.DepthState{Test: s.next(5) > 0, Write: s.next(3) > 0, Compare: functions()[s.next(12)], Bias: s.number()}
		f := []api.DepthFormat{api.D16, api.D24S8, api.D16, api.D24S8, api.NoDepth, 0, 4}[s.next(7)]
		z := s.number()
		old := s.number()
		if s.next(2) == 0 {
			old = expectedQuantize(formats()[f], expectedBias(z, d.Bias)) + s.next(3) - 1
		}
		wantPass, want := expectedTest(d, f, z, old)
		counts[wantPass]++
		if pass, got := depth.Test(d, f, z, old); pass != wantPass || got != want {
			t.Fatalf("the test of %d against %d with %+v and format %d is %t with %d, want %t with %d", z, old, d, f, pass, got, wantPass, want)
		}
	}
	if counts[true] < 5000 || counts[false] < 5000 {
		t.Errorf("the tests pass and fail %v times", counts)
	}
}
