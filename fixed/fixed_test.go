package fixed

import (
	"math"
	"math/big"
	"testing"

	"frustum/api"
)

const (
	one  = api.One
	most = api.MaxValue
	// end is the largest operand that RoundDiv accepts.
	end = 1 << 62
)

// unary is a call with one argument and the result that the document requires.
type unary struct{ x, want int }

func checkUnary(t *testing.T, name string, f func(int) int, cases []unary) {
	t.Helper()
	for _, c := range cases {
		if got := f(c.x); got != c.want {
			t.Errorf("%s(%d) is %d, want %d", name, c.x, got, c.want)
		}
	}
}

// binary is a call with two arguments and the result that the document requires.
type binary struct{ a, b, want int }

func checkBinary(t *testing.T, name string, f func(int, int) int, cases []binary) {
	t.Helper()
	for _, c := range cases {
		if got := f(c.a, c.b); got != c.want {
			t.Errorf("%s(%d, %d) is %d, want %d", name, c.a, c.b, got, c.want)
		}
	}
}

// ternary is a call with three arguments and the result that the document requires.
type ternary struct{ a, b, c, want int }

func checkTernary(t *testing.T, name string, f func(int, int, int) int, cases []ternary) {
	t.Helper()
	for _, c := range cases {
		if got := f(c.a, c.b, c.c); got != c.want {
			t.Errorf("%s(%d, %d, %d) is %d, want %d", name, c.a, c.b, c.c, got, c.want)
		}
	}
}

// spread returns numbers of all magnitudes from the whole range of int: those next to powers of two, limits,
// and multiples and fractions of One, and count arbitrary ones.
func spread(count int) []int {
	values := []int{0, math.MinInt, math.MinInt + 1, math.MaxInt, math.MaxInt - 1}
	centers := []int{most, 3 * one, 3 * one / 2, one / 3, 7 * one, end - 1, 1<<46 + 1<<15, 1<<46 - 1<<15}
	for shift := range 63 {
		centers = append(centers, 1<<shift)
	}
	for _, center := range centers {
		for near := center - 1; near <= center+1; near++ {
			values = append(values, near, -near)
		}
	}
	state := uint64(1)
	for range count {
		state = state*6364136223846793005 + 1442695040888963407
		values = append(values, int(state)>>(state>>32%63))
	}
	return values
}

// saturatedSpread returns the saturated numbers of a spread.
func saturatedSpread(count int) []int {
	var values []int
	for _, x := range spread(count) {
		if -most <= x && x <= most {
			values = append(values, x)
		}
	}
	return values
}

// exactSaturate limits an exact number to [-MaxValue, MaxValue].
func exactSaturate(x *big.Int) int {
	switch {
	case x.Cmp(big.NewInt(most)) > 0:
		return most
	case x.Cmp(big.NewInt(-most)) < 0:
		return -most
	}
	return int(x.Int64())
}

// exactSaturated is the exact number of a saturated argument.
func exactSaturated(x int) *big.Int {
	return big.NewInt(int64(exactSaturate(big.NewInt(int64(x)))))
}

// exactRoundDiv divides exact numbers by the definition floor((2*|n| + |d|) / (2*|d|)) and the rule of signs.
func exactRoundDiv(n, d *big.Int) *big.Int {
	double := new(big.Int).Abs(d)
	twice := new(big.Int).Abs(n)
	twice.Lsh(twice, 1).Add(twice, double)
	double.Lsh(double, 1)
	quotient := twice.Quo(twice, double)
	if n.Sign()*d.Sign() < 0 {
		quotient.Neg(quotient)
	}
	return quotient
}

func timesOne(x *big.Int) *big.Int {
	return new(big.Int).Mul(x, big.NewInt(one))
}

func TestP1_1Saturate(t *testing.T) {
	checkUnary(t, "Saturate", Saturate, []unary{
		{0, 0}, {1, 1}, {-1, -1}, {one, one}, {-5 * one, -5 * one},
		{most - 1, most - 1}, {most, most}, {most + 1, most},
		{-most + 1, -most + 1}, {-most, -most}, {-most - 1, -most},
		{1 << 32, most}, {-1 << 32, -most}, {math.MaxInt, most}, {math.MinInt, -most},
	})
	for _, x := range spread(2000) {
		if got, want := Saturate(x), exactSaturate(big.NewInt(int64(x))); got != want {
			t.Fatalf("Saturate(%d) is %d, want %d", x, got, want)
		}
	}
}

func TestP1_1AddAndSub(t *testing.T) {
	checkBinary(t, "Add", Add, []binary{
		{2, 3, 5}, {2, -3, -1}, {-one, -one, -2 * one}, {0, 0, 0},
		{most - 1, 1, most}, {most, 1, most}, {most, most, most}, {-most, -1, -most}, {-most, -most, -most},
		{most + 5, -5, most - 5}, {-most - 5, 5, -most + 5}, {-5, most + 5, most - 5},
		{math.MaxInt, math.MaxInt, most}, {math.MinInt, math.MinInt, -most},
		{math.MaxInt, math.MinInt, 0}, {math.MinInt, 1, -most + 1}, {1, math.MinInt, -most + 1},
	})
	checkBinary(t, "Sub", Sub, []binary{
		{2, 3, -1}, {2, -3, 5}, {-one, -one, 0}, {0, 7, -7},
		{most, -1, most}, {-most, 1, -most}, {most, -most, most}, {-most, most, -most},
		{most + 5, 5, most - 5}, {5, most + 5, 5 - most}, {-5, -most - 5, most - 5},
		{math.MaxInt, math.MinInt, most}, {math.MinInt, math.MaxInt, -most},
		{math.MinInt, math.MinInt, 0}, {0, math.MinInt, most}, {-1, math.MinInt, most - 1},
	})
	values := spread(100)
	for _, a := range values {
		for _, b := range values {
			sum := new(big.Int).Add(exactSaturated(a), exactSaturated(b))
			if got, want := Add(a, b), exactSaturate(sum); got != want {
				t.Fatalf("Add(%d, %d) is %d, want %d", a, b, got, want)
			}
			difference := new(big.Int).Sub(exactSaturated(a), exactSaturated(b))
			if got, want := Sub(a, b), exactSaturate(difference); got != want {
				t.Fatalf("Sub(%d, %d) is %d, want %d", a, b, got, want)
			}
		}
	}
}

func TestP1_1Clamp(t *testing.T) {
	checkTernary(t, "Clamp", Clamp, []ternary{
		{5, 3, 7, 5}, {2, 3, 7, 3}, {8, 3, 7, 7}, {3, 3, 7, 3}, {7, 3, 7, 7}, {9, 4, 4, 4}, {-9, -4, -4, -4},
		{5, 7, 3, 7}, {2, 7, 3, 7}, {9, 7, 3, 7}, {3, 7, 3, 7}, {7, 7, 3, 7},
		{0, math.MinInt, math.MaxInt, 0}, {0, math.MaxInt, math.MinInt, math.MaxInt},
		{math.MaxInt, 1 << 40, 1 << 50, 1 << 50}, {math.MinInt, -1 << 50, -1 << 40, -1 << 50},
		{1 << 45, math.MinInt, math.MaxInt, 1 << 45},
	})
	values := []int{math.MinInt, -most - 1, -one, -1, 0, 1, 2, one, most + 1, 1 << 40, math.MaxInt}
	for _, x := range values {
		for _, low := range values {
			for _, high := range values {
				want := x
				switch {
				case low > high || x < low:
					want = low
				case x > high:
					want = high
				}
				if got := Clamp(x, low, high); got != want {
					t.Fatalf("Clamp(%d, %d, %d) is %d, want %d", x, low, high, got, want)
				}
			}
		}
	}
}

func TestP1_1Wrap(t *testing.T) {
	checkUnary(t, "Wrap", Wrap, []unary{
		{0, 0}, {1, 1}, {-1, -1}, {most + 1, most + 1}, {1<<31 - 1, 1<<31 - 1}, {1 << 31, -1 << 31},
		{1<<31 + 1, -1<<31 + 1}, {-1 << 31, -1 << 31}, {-1<<31 - 1, 1<<31 - 1},
		{1<<32 - 1, -1}, {1 << 32, 0}, {1<<32 + 7, 7}, {-1 << 32, 0}, {-1<<32 - 7, -7},
		{3 << 31, -1 << 31}, {5<<32 + 1<<31 - 1, 1<<31 - 1}, {math.MaxInt, -1}, {math.MinInt, 0}, {math.MinInt + 1, 1},
	})
	modulus := big.NewInt(1 << 32)
	for _, x := range spread(2000) {
		got := Wrap(x)
		change := new(big.Int).Sub(big.NewInt(int64(x)), big.NewInt(int64(got)))
		if got < -1<<31 || got > 1<<31-1 || change.Mod(change, modulus).Sign() != 0 {
			t.Fatalf("Wrap(%d) is %d", x, got)
		}
	}
}

func TestP1_2RoundDiv(t *testing.T) {
	checkBinary(t, "RoundDiv", RoundDiv, []binary{
		{0, 1, 0}, {6, 3, 2}, {-6, 3, -2}, {7, 3, 2}, {8, 3, 3}, {-7, 3, -2}, {-8, 3, -3},
		{1, 2, 1}, {-1, 2, -1}, {3, 2, 2}, {-3, 2, -2}, {5, 10, 1}, {-5, 10, -1}, {4, 10, 0}, {-4, 10, 0},
		{2, 5, 0}, {3, 5, 1}, {-2, 5, 0}, {-3, 5, -1},
	})
	checkBinary(t, "RoundDiv at the ends of its ranges", RoundDiv, []binary{
		{end, 1, end}, {-end, 1, -end}, {end, end, 1}, {-end, end, -1}, {end - 1, end, 1}, {1 - end, end, -1},
		{end / 2, end, 1}, {-end / 2, end, -1}, {end/2 - 1, end, 0}, {1 - end/2, end, 0},
		{end, end - 1, 1}, {end - 2, end - 1, 1}, {2 - end, end - 1, -1}, {end, 3, (end - 1) / 3}, {end, 2, end / 2},
	})
	checkBinary(t, "RoundDiv outside of its ranges", RoundDiv, []binary{
		{7, 0, 0}, {7, -1, 0}, {-7, -2, 0}, {0, 0, 0}, {7, math.MinInt, 0}, {math.MinInt, -1, 0},
		{end + 1, 1, 0}, {-end - 1, 1, 0}, {end, end + 1, 0}, {end + 1, end, 0}, {-end - 1, end, 0}, {end, math.MaxInt, 0},
		{math.MaxInt, 1, 0}, {math.MinInt, 1, 0}, {math.MaxInt, math.MaxInt, 0}, {math.MinInt, math.MinInt, 0},
	})
	values := spread(100)
	for _, n := range values {
		for _, d := range values {
			want := 0
			if 1 <= d && d <= end && -end <= n && n <= end {
				want = int(exactRoundDiv(big.NewInt(int64(n)), big.NewInt(int64(d))).Int64())
			}
			if got := RoundDiv(n, d); got != want {
				t.Fatalf("RoundDiv(%d, %d) is %d, want %d", n, d, got, want)
			}
		}
	}
}

func TestP1_2Mul(t *testing.T) {
	checkBinary(t, "Mul", Mul, []binary{
		{2 * one, 3 * one, 6 * one}, {-2 * one, 3 * one, -6 * one}, {-2 * one, -3 * one, 6 * one}, {one, 7, 7}, {0, most, 0},
		{one / 2, 3, 2}, {one / 2, -3, -2}, {-one / 2, -3, 2}, {one / 2, 1, 1}, {one / 2, -1, -1},
		{one/2 - 1, 1, 0}, {one/2 - 1, -1, 0}, {one/2 + 1, -3, -2}, {one/2 - 1, 3, 1},
		{most, one, most}, {most, one + 1, most}, {most, most, most}, {-most, most, -most}, {-most, -most, most},
		{most, -one, -most}, {most + 1, one / 2, most/2 + 1}, {math.MaxInt, one, most}, {math.MinInt, one, -most},
		{math.MinInt, math.MinInt, most}, {math.MinInt, math.MaxInt, -most}, {math.MaxInt, 1, 8192}, {1, math.MinInt, -8192},
	})
	values := spread(100)
	for _, a := range values {
		for _, b := range values {
			product := new(big.Int).Mul(exactSaturated(a), exactSaturated(b))
			want := exactSaturate(exactRoundDiv(product, big.NewInt(one)))
			if got := Mul(a, b); got != want {
				t.Fatalf("Mul(%d, %d) is %d, want %d", a, b, got, want)
			}
		}
	}
}

func TestP1_2Div(t *testing.T) {
	checkBinary(t, "Div", Div, []binary{
		{6 * one, 3 * one, 2 * one}, {-6 * one, 3 * one, -2 * one}, {6 * one, -3 * one, -2 * one}, {-6 * one, -3 * one, 2 * one},
		{one, 3 * one, 21845}, {2 * one, 3 * one, 43691}, {-2 * one, 3 * one, -43691}, {2 * one, -3 * one, -43691}, {-2 * one, -3 * one, 43691},
		{1, 2 * one, 1}, {-1, 2 * one, -1}, {1, -2 * one, -1}, {-1, -2 * one, 1}, {3, 2 * one, 2}, {3, -2 * one, -2},
		{1, 2*one + 1, 0}, {-1, 2*one + 1, 0}, {0, -5, 0}, {most, most, one}, {-most, most, -one},
		{most, 1, most}, {-most, 1, -most}, {most, -1, -most}, {-most, -1, most}, {8191, 1, 8191 * one}, {8192, 1, most}, {8192, -1, -most},
		{most, one, most}, {most, one - 1, most}, {math.MaxInt, 2 * one, (most + 1) / 2}, {math.MinInt, 2 * one, -(most + 1) / 2},
		{one, math.MaxInt, 8}, {one, math.MinInt, -8}, {math.MinInt, math.MinInt, one}, {math.MinInt, math.MaxInt, -one},
	})
	checkBinary(t, "Div by zero", Div, []binary{
		{5, 0, most}, {1, 0, most}, {-1, 0, -most}, {-5, 0, -most}, {0, 0, 0}, {math.MaxInt, 0, most}, {math.MinInt, 0, -most},
	})
	values := spread(100)
	for _, a := range values {
		for _, b := range values {
			if b == 0 {
				continue
			}
			want := exactSaturate(exactRoundDiv(timesOne(exactSaturated(a)), exactSaturated(b)))
			if got := Div(a, b); got != want {
				t.Fatalf("Div(%d, %d) is %d, want %d", a, b, got, want)
			}
		}
	}
}

// exactRatio follows the text of promise P1.3 with exact numbers.
func exactRatio(n, d int) int {
	switch {
	case d < 1 || d > end || n < 1:
		return 0
	case n >= d:
		return one
	case d < 1<<46:
		return int(exactRoundDiv(timesOne(big.NewInt(int64(n))), big.NewInt(int64(d))).Int64())
	}
	scaled := exactRoundDiv(big.NewInt(int64(d)), big.NewInt(one))
	return min(one, int(exactRoundDiv(big.NewInt(int64(n)), scaled).Int64()))
}

func TestP1_3Ratio(t *testing.T) {
	checkBinary(t, "Ratio", Ratio, []binary{
		{1, 2, one / 2}, {1, 3, 21845}, {2, 3, 43691}, {3, 3, one}, {4, 3, one}, {1, 1, one},
		{1, 2 * one, 1}, {1, 2*one + 1, 0}, {3, 2 * one, 2}, {2*one - 1, 2 * one, one}, {one - 1, one, one - 1},
	})
	checkBinary(t, "Ratio outside of its ranges", Ratio, []binary{
		{0, 5, 0}, {-1, 2, 0}, {1, 0, 0}, {1, -1, 0}, {-1, -1, 0}, {0, 0, 0}, {5, -5, 0}, {math.MinInt, 7, 0}, {7, math.MinInt, 0},
		{1, end + 1, 0}, {end + 1, end + 1, 0}, {math.MaxInt, math.MaxInt, 0}, {math.MaxInt, end + 1, 0},
		{math.MaxInt, end, one}, {end, end, one}, {math.MaxInt, 1, one}, {end + 1, end, one}, {math.MinInt, end, 0},
	})
	// Below 2^46 the quotient is exact; from there on the divisor is rounded first. The two ways differ at 60000.5.
	const low, high = 1<<46 - 1<<15 - 1, 1<<46 + 1<<15
	checkBinary(t, "Ratio of large numbers", Ratio, []binary{
		{1 << 59, 1 << 60, one / 2}, {end - 1, end, one}, {end / 2, end, one / 2}, {end / one / 2, end, 1}, {end/one/2 - 1, end, 0},
		{1 << 45, 1 << 46, one / 2}, {1<<46 - 1, 1 << 46, one}, {1<<46 - 2, 1<<46 - 1, one}, {1 << 29, 1 << 46, 1}, {1<<29 - 1, 1 << 46, 0},
		{60000<<30 + 1<<29 + 60000, high, 60000}, {60000<<30 + 1<<29 + 60001, high, 60001},
		{60000<<30 + 1<<29 - 60000, low, 60000}, {60000<<30 + 1<<29 - 1000, low, 60001},
	})
	// Next to 2^46 the two ways differ by one n at 65535.5, which is a quotient of 2^30.
	const half = 65535<<30 + 1<<29
	checkBinary(t, "Ratio around 2^46", Ratio, []binary{
		{half - 2, 1<<46 - 2, one - 1}, {half - 1, 1<<46 - 2, one}, {half - 1, 1 << 46, one - 1}, {half, 1 << 46, one},
		{half - 1, 1<<46 + 1, one - 1}, {half, 1<<46 + 1, one},
	})
	values := spread(200)
	for _, n := range values {
		for _, d := range values {
			if got, want := Ratio(n, d), exactRatio(n, d); got != want {
				t.Fatalf("Ratio(%d, %d) is %d, want %d", n, d, got, want)
			}
		}
	}
}

func TestP1_3RatioNearHalves(t *testing.T) {
	for _, d := range []int{1<<45 + 1<<15, 1<<46 - 1<<15 - 1, 1<<46 - 1, 1 << 46, 1<<46 + 1<<15 - 1, 1<<46 + 1<<15, 1<<47 + 12345, 1<<61 + 1<<15 + 1, end - 1} {
		for k := 0; k < one; k += 997 {
			half := new(big.Int).Mul(big.NewInt(int64(2*k+1)), big.NewInt(int64(d)))
			middle := int(half.Rsh(half, 17).Int64())
			for _, n := range []int{middle - k, middle - k/2, middle - 1, middle, middle + 1, middle + k/2, middle + k} {
				if got, want := Ratio(n, d), exactRatio(n, d); got != want {
					t.Fatalf("Ratio(%d, %d) is %d, want %d", n, d, got, want)
				}
			}
		}
	}
}

func TestP1_4FloorAndFract(t *testing.T) {
	checkUnary(t, "Floor", Floor, []unary{
		{0, 0}, {1, 0}, {one - 1, 0}, {one, one}, {one + 1, one}, {5 * one / 2, 2 * one},
		{-1, -one}, {-one + 1, -one}, {-one, -one}, {-one - 1, -2 * one}, {-5 * one / 2, -3 * one},
		{most, most + 1 - one}, {most + 1, most + 1 - one}, {math.MaxInt, most + 1 - one}, {1 << 40, most + 1 - one},
		{-most, -most}, {-most + one - 2, -most}, {-most + one - 1, -most - 1 + one}, {-most - 1, -most}, {math.MinInt, -most},
	})
	checkUnary(t, "Fract", Fract, []unary{
		{0, 0}, {1, 1}, {one - 1, one - 1}, {one, 0}, {one + 1, 1}, {5 * one / 2, one / 2},
		{-1, one - 1}, {-one + 1, 1}, {-one, 0}, {-one - 1, one - 1}, {-5 * one / 2, one / 2},
		{most, one - 1}, {most + 1, one - 1}, {1 << 40, one - 1}, {math.MaxInt, one - 1},
		{-most, 1}, {-most - 1, 1}, {-1 << 40, 1}, {math.MinInt, 1},
	})
	for _, x := range spread(2000) {
		saturated := exactSaturated(x)
		// Div rounds toward negative infinity for a positive divisor.
		whole := timesOne(new(big.Int).Div(saturated, big.NewInt(one)))
		if got, want := Floor(x), exactSaturate(whole); got != want {
			t.Fatalf("Floor(%d) is %d, want %d", x, got, want)
		}
		if got, want := Fract(x), int(saturated.Sub(saturated, whole).Int64()); got != want {
			t.Fatalf("Fract(%d) is %d, want %d", x, got, want)
		}
	}
}

func TestP1_4Sqrt(t *testing.T) {
	checkUnary(t, "Sqrt", Sqrt, []unary{
		{0, 0}, {-1, 0}, {-one, 0}, {-most, 0}, {-most - 1, 0}, {math.MinInt, 0},
		{1, 256}, {2, 362}, {3, 443}, {4, 512}, {one, one}, {one - 1, one - 1}, {one + 1, one},
		{2 * one, 92681}, {4 * one, 2 * one}, {4*one - 1, 2*one - 1}, {9 * one, 3 * one}, {one / 4, one / 2}, {8100 * one, 90 * one},
		{most, 5931641}, {most + 1, 5931641}, {1 << 40, 5931641}, {math.MaxInt, 5931641},
	})
	for _, x := range spread(2000) {
		want := 0
		if x > 0 {
			square := timesOne(exactSaturated(x))
			want = int(square.Sqrt(square).Int64())
		}
		if got := Sqrt(x); got != want {
			t.Fatalf("Sqrt(%d) is %d, want %d", x, got, want)
		}
	}
	for r := 1; r*r/one < most; r += 4999 {
		for x := r*r/one - 1; x <= r*r/one+1; x++ {
			root := Sqrt(x)
			if x >= 0 && (root*root > x*one || (root+1)*(root+1) <= x*one) {
				t.Fatalf("Sqrt(%d) is %d", x, root)
			}
		}
	}
}

func TestP1_5Lerp(t *testing.T) {
	checkTernary(t, "Lerp", Lerp, []ternary{
		{0, 10, one / 2, 5}, {10, 0, one / 2, 5}, {3, 7, 0, 3}, {3, 7, one, 7}, {-one, one, one / 4, -one / 2},
		{0, 1, one/2 - 1, 0}, {0, 1, one / 2, 1}, {1, 0, one / 2, 0}, {0, -1, one / 2, -1}, {0, 3, one / 2, 2}, {5, 2, one / 2, 3},
		{3, 7, -1, 3}, {3, 7, one + 1, 7}, {3, 7, 9 * one, 7}, {3, 7, math.MinInt, 3}, {3, 7, math.MaxInt, 7},
		{3, 7, 1 << 32, 7}, {3, 7, -1 << 32, 3}, {4, 4, one / 3, 4},
	})
	// The difference of the ends saturates, so that t = One need not give b.
	checkTernary(t, "Lerp at the limits", Lerp, []ternary{
		{-most, most, one, 0}, {most, -most, one, 0}, {-most, most, one / 2, -(most - 1) / 2}, {-most, 1, one, 0}, {-most, 0, one, 0},
		{math.MinInt, math.MaxInt, one, 0}, {math.MaxInt, math.MinInt, one, 0}, {math.MaxInt, math.MaxInt, one / 2, most},
		{math.MinInt, 5, 0, -most}, {0, math.MaxInt, one, most}, {math.MinInt, -most + 5, one, -most + 5},
	})
	values := spread(10)
	for _, a := range values {
		for _, b := range values {
			for _, factor := range []int{math.MinInt, -1 << 40, -1, 0, 1, one / 3, one / 2, one - 1, one, one + 1, 1 << 40, math.MaxInt} {
				difference := big.NewInt(int64(exactSaturate(new(big.Int).Sub(exactSaturated(b), exactSaturated(a)))))
				share := exactRoundDiv(difference.Mul(difference, big.NewInt(int64(max(0, min(factor, one))))), big.NewInt(one))
				want := exactSaturate(share.Add(share, exactSaturated(a)))
				if got := Lerp(a, b, factor); got != want {
					t.Fatalf("Lerp(%d, %d, %d) is %d, want %d", a, b, factor, got, want)
				}
			}
		}
	}
}

func isSaturated(x int) bool {
	return -most <= x && x <= most
}

func TestP1_6ResultsAreSaturated(t *testing.T) {
	values := spread(50)
	for _, a := range values {
		for name, x := range map[string]int{"Saturate": Saturate(a), "Sqrt": Sqrt(a), "Floor": Floor(a), "Fract": Fract(a)} {
			if !isSaturated(x) {
				t.Fatalf("%s(%d) is %d", name, a, x)
			}
		}
		for _, b := range values {
			for i, x := range []int{Add(a, b), Sub(a, b), Mul(a, b), Div(a, b), Lerp(a, b, one/3), Lerp(a, b, b), Lerp(b, a, one)} {
				if !isSaturated(x) {
					t.Fatalf("result %d for %d and %d is %d", i, a, b, x)
				}
			}
			if x := Ratio(a, b); x < 0 || x > one {
				t.Fatalf("Ratio(%d, %d) is %d", a, b, x)
			}
		}
	}
}

func TestP1_6OtherResultsAreNotSaturated(t *testing.T) {
	if got := RoundDiv(end, 1); got != end {
		t.Error("RoundDiv:", got)
	}
	if got := Clamp(1<<40, 0, 1<<50); got != 1<<40 {
		t.Error("Clamp:", got)
	}
	if got := Wrap(1 << 30); got != 1<<30 {
		t.Error("Wrap:", got)
	}
}

func TestP1_6Commutative(t *testing.T) {
	values := spread(100)
	for _, a := range values {
		for _, b := range values {
			if Add(a, b) != Add(b, a) {
				t.Fatalf("Add of %d and %d: %d, %d", a, b, Add(a, b), Add(b, a))
			}
			if Mul(a, b) != Mul(b, a) {
				t.Fatalf("Mul of %d and %d: %d, %d", a, b, Mul(a, b), Mul(b, a))
			}
		}
	}
}

func TestP1_6LerpStaysBetween(t *testing.T) {
	values := saturatedSpread(50)
	for _, a := range values {
		for _, b := range values {
			for _, factor := range []int{math.MinInt, 0, 1, one / 3, one / 2, one - 1, one, one + 1, math.MaxInt} {
				if got := Lerp(a, b, factor); got < min(a, b) || got > max(a, b) {
					t.Fatalf("Lerp(%d, %d, %d) is %d", a, b, factor, got)
				}
			}
		}
	}
}
