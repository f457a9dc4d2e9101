package vec

import (
	"math"
	"math/big"
	"slices"
	"testing"

	"frustum/api"
	"frustum/fixed"
)

const (
	one      = api.One
	half     = api.One / 2
	most     = api.MaxValue
	largest  = math.MaxInt
	smallest = math.MinInt
)

func vector(x, y, z, w int) api.Vec4 {
	return api.Vec4{X: x, Y: y, Z: z, W: w}
}

// same returns the vector of four equal components.
func same(x int) api.Vec4 {
	return vector(x, x, x, x)
}

// axes returns the four vectors that have one component x, and 0 elsewhere.
func axes(x int) []api.Vec4 {
	return []api.Vec4{{X: x}, {Y: x}, {Z: x}, {W: x}}
}

// numbers returns numbers of the whole range of int: those next to 0, to halves and multiples of One, to the roots of One and its half,
// to the limits of saturation, and to powers of two beyond them.
func numbers() []int {
	values := []int{smallest, smallest + 1, largest - 1, largest}
	for _, center := range []int{0, 181, 256, half, one, 3 * half, 5 * one, 1 << 22, most / 2, most, 1 << 32, 1 << 48, 1 << 62} {
		for near := center - 1; near <= center+1; near++ {
			values = append(values, near, -near)
		}
	}
	return values
}

// vectors returns vectors in which each component by itself takes all numbers, and count arbitrary vectors of them.
func vectors(count int) []api.Vec4 {
	values := numbers()
	var result []api.Vec4
	for _, x := range values {
		result = append(result, axes(x)...)
	}
	state := uint64(1)
	pick := func() int {
		state = state*6364136223846793005 + 1442695040888963407
		return values[state>>33%uint64(len(values))]
	}
	for range count {
		result = append(result, api.Vec4{X: pick(), Y: pick(), Z: pick(), W: pick()})
	}
	return result
}

// unary is a call with one vector and the result that the document requires.
type unary struct{ v, want api.Vec4 }

func checkUnary(t *testing.T, name string, function func(v api.Vec4) api.Vec4, cases []unary) {
	t.Helper()
	for _, c := range cases {
		if got := function(c.v); got != c.want {
			t.Errorf("%s(%v) is %v, want %v", name, c.v, got, c.want)
		}
	}
}

// binary is a call with two vectors and the result that the document requires.
type binary struct{ a, b, want api.Vec4 }

func checkBinary(t *testing.T, name string, function func(a, b api.Vec4) api.Vec4, cases []binary) {
	t.Helper()
	for _, c := range cases {
		if got := function(c.a, c.b); got != c.want {
			t.Errorf("%s(%v, %v) is %v, want %v", name, c.a, c.b, got, c.want)
		}
	}
}

// checkComponents requires of a function of two vectors that each component of the result is that of the same components of both.
func checkComponents(t *testing.T, name string, function func(a, b api.Vec4) api.Vec4, of func(x, y int) int) {
	t.Helper()
	all := vectors(100)
	for _, a := range all {
		for _, b := range all {
			want := api.Vec4{X: of(a.X, b.X), Y: of(a.Y, b.Y), Z: of(a.Z, b.Z), W: of(a.W, b.W)}
			if got := function(a, b); got != want {
				t.Fatalf("%s(%v, %v) is %v, want %v", name, a, b, got, want)
			}
		}
	}
}

func TestP3_1Add(t *testing.T) {
	checkBinary(t, "Add", Add, []binary{
		{vector(1, 2, 3, 4), vector(10, 20, 30, 40), vector(11, 22, 33, 44)},
		{vector(1, -2, one, -one), vector(-10, 20, -one, -one), vector(-9, 18, 0, -2*one)},
		{vector(most-1, most, most, -most), vector(1, 1, most, -1), vector(most, most, most, -most)},
		{vector(most+5, -most-5, 5, -5), vector(-5, 5, -most-5, most+5), vector(most-5, 5-most, 5-most, most-5)},
		{vector(largest, smallest, largest, smallest), vector(largest, smallest, smallest, 1), vector(most, -most, 0, 1-most)},
	})
	checkComponents(t, "Add", Add, fixed.Add)
}

func TestP3_1Sub(t *testing.T) {
	checkBinary(t, "Sub", Sub, []binary{
		{vector(11, 22, 33, 44), vector(10, 20, 30, 40), vector(1, 2, 3, 4)},
		{vector(1, -2, one, -one), vector(10, 20, one, -2*one), vector(-9, -22, 0, one)},
		{vector(most-1, most, -most, -most), vector(-1, -1, 1, most), vector(most, most, -most, -most)},
		{vector(most+5, -most-5, 5, -5), vector(5, -5, most+5, -most-5), vector(most-5, 5-most, 5-most, most-5)},
		{vector(largest, smallest, smallest, 0), vector(smallest, largest, smallest, smallest), vector(most, -most, 0, most)},
	})
	checkComponents(t, "Sub", Sub, fixed.Sub)
}

func TestP3_1Mul(t *testing.T) {
	checkBinary(t, "Mul", Mul, []binary{
		{vector(one, 2*one, 3*one, 4*one), vector(5, 7, 11, 13), vector(5, 14, 33, 52)},
		{vector(half, half, -half, -half), vector(3, -3, 3, -3), vector(2, -2, -2, 2)},
		{vector(0, 7, half-1, 1-half), vector(7, 0, 1, 1), api.Vec4{}},
		{vector(most, most, -most, -most), vector(most, -most, one, -one), vector(most, -most, -most, most)},
		{vector(most+5, -most-5, half, half), vector(one, one, most+5, -most-5), vector(most, -most, 1<<28, -1<<28)},
		{vector(largest, smallest, largest, smallest), vector(1, 1, 0, smallest), vector(8192, -8192, 0, most)},
	})
	checkComponents(t, "Mul", Mul, fixed.Mul)
}

func TestP3_1Scale(t *testing.T) {
	for _, c := range []struct {
		v    api.Vec4
		k    int
		want api.Vec4
	}{
		{vector(1, 2, 3, 4), 3 * one, vector(3, 6, 9, 12)},
		{vector(1, 2, -3, -4), half, vector(1, 1, -2, -2)},
		{vector(one, -2*one, half, 0), -5, vector(-5, 10, -3, 0)},
		{vector(1, -one, most, -most), 0, api.Vec4{}},
		{vector(most, -most, most+1, -most-1), one, vector(most, -most, most, -most)},
		{vector(most, -most, one, 1), most, vector(most, -most, most, 8192)},
		{vector(one, -one, 1, half), largest, vector(most, -most, 8192, 1<<28)},
		{vector(one, -one, 1, half), smallest, vector(-most, most, -8192, -1<<28)},
		{vector(largest, smallest, largest, smallest), 1, vector(8192, -8192, 8192, -8192)},
	} {
		if got := Scale(c.v, c.k); got != c.want {
			t.Errorf("Scale(%v, %d) is %v, want %v", c.v, c.k, got, c.want)
		}
	}
	for _, k := range numbers() {
		for _, v := range vectors(100) {
			want := vector(fixed.Mul(v.X, k), fixed.Mul(v.Y, k), fixed.Mul(v.Z, k), fixed.Mul(v.W, k))
			if got := Scale(v, k); got != want {
				t.Fatalf("Scale(%v, %d) is %v, want %v", v, k, got, want)
			}
		}
	}
}

func TestP3_1Lerp(t *testing.T) {
	a, b := vector(0, 10, -4, 100), vector(10, 0, -8, 300)
	for _, c := range []struct {
		t    int
		want api.Vec4
	}{
		{0, a}, {one / 4, vector(3, 7, -5, 150)}, {half, vector(5, 5, -6, 200)}, {one, b},
		{-1, a}, {-one, a}, {-most - 1, a}, {smallest, a}, {one + 1, b}, {2 * one, b}, {most + 1, b}, {largest, b},
	} {
		if got := Lerp(a, b, c.t); got != c.want {
			t.Errorf("Lerp(%v, %v, %d) is %v, want %v", a, b, c.t, got, c.want)
		}
	}
	atHalf := func(a, b api.Vec4) api.Vec4 { return Lerp(a, b, half) }
	checkBinary(t, "Lerp at a half", atHalf, []binary{
		{vector(most, 0, -most, 0), vector(0, most, 0, -most), vector(1<<28-1, 1<<28, 1-1<<28, -1<<28)},
		{vector(most+9, 0, smallest, 0), vector(0, most+9, 0, smallest), vector(1<<28-1, 1<<28, 1-1<<28, -1<<28)},
		{vector(-most, most, largest, smallest), vector(most, -most, largest, smallest), vector(-1<<28+1, 1<<28-1, most, -most)},
	})
	for _, weight := range []int{smallest, -1, 0, 1, 12345, half, one - 1, one, one + 1, largest} {
		function := func(a, b api.Vec4) api.Vec4 { return Lerp(a, b, weight) }
		checkComponents(t, "Lerp", function, func(x, y int) int { return fixed.Lerp(x, y, weight) })
	}
}

func TestP3_1MinAndMax(t *testing.T) {
	a, b := vector(1, 20, -3, -40), vector(10, 2, -30, -4)
	ends, otherEnds := vector(largest, smallest, most+1, -most-1), vector(smallest, largest, most+2, -most-2)
	checkBinary(t, "Min", Min, []binary{
		{a, b, vector(1, 2, -30, -40)}, {b, a, vector(1, 2, -30, -40)}, {a, a, a},
		{ends, otherEnds, vector(smallest, smallest, most+1, -most-2)}, {ends, ends, ends},
	})
	checkBinary(t, "Max", Max, []binary{
		{a, b, vector(10, 20, -3, -4)}, {b, a, vector(10, 20, -3, -4)}, {b, b, b},
		{ends, otherEnds, vector(largest, largest, most+2, -most-1)}, {otherEnds, otherEnds, otherEnds},
	})
	checkComponents(t, "Min", Min, func(x, y int) int {
		if x > y {
			return y
		}
		return x
	})
	checkComponents(t, "Max", Max, func(x, y int) int {
		if x < y {
			return y
		}
		return x
	})
}

func TestP3_1Clamp01(t *testing.T) {
	checkUnary(t, "Clamp01", Clamp01, []unary{
		{vector(0, 1, one-1, one), vector(0, 1, one-1, one)},
		{vector(-1, one+1, -one, 2*one), vector(0, one, 0, one)},
		{vector(most, -most, most+1, -most-1), vector(one, 0, one, 0)},
		{vector(smallest, largest, 5, half), vector(0, one, 5, half)},
	})
	limited := func(x int) int {
		switch {
		case x < 0:
			return 0
		case x > one:
			return one
		}
		return x
	}
	for _, v := range vectors(1000) {
		want := vector(limited(v.X), limited(v.Y), limited(v.Z), limited(v.W))
		checkUnary(t, "Clamp01", Clamp01, []unary{{v, want}})
	}
}

// dotted is a call of Dot and the result that the document requires.
type dotted struct {
	a, b api.Vec4
	want int
}

func checkDot(t *testing.T, name string, cases []dotted) {
	t.Helper()
	for _, c := range cases {
		if got := Dot(c.a, c.b); got != c.want {
			t.Errorf("%s: Dot(%v, %v) is %d, want %d", name, c.a, c.b, got, c.want)
		}
	}
}

func TestP3_2Dot(t *testing.T) {
	checkDot(t, "ordinary vectors", []dotted{
		{vector(one, one, 0, 0), vector(half, half, 5, 5), one},
		{vector(one, 2*one, 3*one, 4*one), vector(5, 7, 11, 13), 5 + 14 + 33 + 52},
		{vector(one, -2*one, 3*one, -4*one), vector(5, 7, -11, -13), 5 - 14 - 33 + 52},
		{api.Vec4{}, same(most), 0}, {same(largest), api.Vec4{}, 0},
	})
	for i, a := range axes(3 * one) {
		for j, b := range axes(7) {
			want := 0
			if i == j {
				want = 21
			}
			checkDot(t, "one component", []dotted{{a, b, want}})
		}
	}
}

func TestP3_2DotIsRoundedOnce(t *testing.T) {
	checkDot(t, "halves and their neighbors", []dotted{
		{vector(half, 0, 0, 0), vector(1, 0, 0, 0), 1}, {vector(0, 0, 0, half), vector(0, 0, 0, -1), -1},
		{vector(half-1, 0, 0, 0), vector(1, 0, 0, 0), 0}, {vector(0, 0, 0, half-1), vector(0, 0, 0, -1), 0},
		{vector(one, half, 0, 0), vector(1, 1, 0, 0), 2}, {vector(0, 0, one, half), vector(0, 0, -1, -1), -2},
		{vector(one, half, 1, 0), vector(1, 1, -1, 0), 1}, {vector(one, half, 1, 0), vector(-1, -1, 1, 0), -1},
	})
	// The products are halves or less, so that each of them by itself is rounded to another number.
	checkDot(t, "sums of fractions", []dotted{
		{same(half), same(1), 2}, {same(half), same(-1), -2}, {same(-half), same(-1), 2},
		{same(half / 4), same(1), 1}, {same(half / 4), same(-1), -1}, {same(half / 2), same(1), 1}, {same(3 * half / 4), same(1), 2},
		{vector(half/4, half/4, half/4, half/4-1), same(1), 0}, {vector(half/4, half/4, half/4, half/4-1), same(-1), 0},
		{vector(half, half, half, 0), same(1), 2}, {vector(half, half, half, 0), same(-1), -2},
		{vector(half, -half, half, -half), same(1), 0}, {vector(half, half, -1, 0), same(1), 1},
		{same(half - 1), same(1), 2}, {same(half - 1), same(-1), -2},
	})
}

func TestP3_2DotIsSaturated(t *testing.T) {
	checkDot(t, "sums at the limits", []dotted{
		{vector(most, 0, 0, 0), vector(one, 0, 0, 0), most}, {vector(0, 0, 0, most), vector(0, 0, 0, -one), -most},
		{vector(most, 1, 0, 0), vector(one, one, 0, 0), most}, {vector(most, 1, 0, 0), vector(-one, -one, 0, 0), -most},
		{vector(most, 1, 0, 0), vector(one, -one, 0, 0), most - 1}, {vector(most, 1, 0, 0), vector(-one, one, 0, 0), 1 - most},
		{same(most), same(most), most}, {same(most), same(-most), -most}, {same(-most), same(-most), most},
		{same(1 << 27), same(one), most}, {same(-1 << 27), same(one), -most}, {same(1<<27 - 1), same(one), 1<<29 - 4},
	})
	// Only the sum is saturated: products that exceed the limits cancel out exactly.
	checkDot(t, "large products", []dotted{
		{vector(most, most, most, 5), vector(most, most, -most, one), most},
		{vector(most, most, most, 5), vector(-most, -most, most, one), -most},
		{vector(most, most, 5, 0), vector(most, -most, one, 0), 5}, {vector(5, most, most, 0), vector(one, -most, most, 0), 5},
		{vector(most, most, 0, 0), vector(3*one, -2*one, 0, 0), most}, {vector(most, most-7, 0, 0), vector(2*one, -2*one, 0, 0), 14},
		{vector(most, most, most, most), vector(one, one, one, -3*one), 0},
	})
	checkDot(t, "components that are not saturated", []dotted{
		{vector(most+1, 0, 0, 0), vector(1, 0, 0, 0), 8192}, {vector(1, 0, 0, 0), vector(-most-1, 0, 0, 0), -8192},
		{vector(most+1, most, 0, 0), vector(one, -one, 0, 0), 0}, {vector(one, -one, 0, 0), vector(-most, -most-1, 0, 0), 0},
		{same(largest), same(largest), most}, {same(smallest), same(smallest), most}, {same(largest), same(smallest), -most},
		{vector(largest, smallest, 5, 0), vector(one, one, one, 0), 5}, {vector(1, 1, 1, 1), vector(largest, largest, smallest, 1<<62), 16384},
		{same(1), same(1 << 62), 32768}, {same(1 << 32), same(1), 32768}, {same(1), same(smallest), -32768},
	})
}

// exactDot computes P3.2 without limits: floor((2*|sum| + One) / (2*One)) with the sign of the sum, saturated.
func exactDot(a, b api.Vec4) int {
	sum := new(big.Int)
	for _, product := range [][2]int{{a.X, b.X}, {a.Y, b.Y}, {a.Z, b.Z}, {a.W, b.W}} {
		x, y := max(-most, min(product[0], most)), max(-most, min(product[1], most))
		sum.Add(sum, new(big.Int).Mul(big.NewInt(int64(x)), big.NewInt(int64(y))))
	}
	rounded := new(big.Int).Abs(sum)
	rounded.Lsh(rounded, 1).Add(rounded, big.NewInt(one)).Quo(rounded, big.NewInt(2*one))
	if rounded.Cmp(big.NewInt(most)) > 0 {
		return most * sum.Sign()
	}
	return int(rounded.Int64()) * sum.Sign()
}

func TestP3_2DotIsExact(t *testing.T) {
	all := vectors(200)
	for _, a := range all {
		for _, b := range all {
			if got, want := Dot(a, b), exactDot(a, b); got != want {
				t.Fatalf("Dot(%v, %v) is %d, want %d", a, b, got, want)
			}
		}
	}
}

func TestP3_3Of(t *testing.T) {
	for _, c := range []struct {
		l    []int
		want api.Vec4
	}{
		{nil, api.Vec4{}}, {[]int{}, api.Vec4{}}, {[]int{1}, api.Vec4{X: 1}}, {[]int{1, 2}, api.Vec4{X: 1, Y: 2}},
		{[]int{1, 2, 3}, api.Vec4{X: 1, Y: 2, Z: 3}}, {[]int{1, 2, 3, 4}, vector(1, 2, 3, 4)},
		{[]int{1, 2, 3, 4, 5}, vector(1, 2, 3, 4)}, {[]int{1, -2, 3, -4, 5, 6, 7, 8, 9}, vector(1, -2, 3, -4)},
		{[]int{largest, smallest, most + 1, -most - 1}, vector(largest, smallest, most+1, -most-1)},
		{make([]int, 1000), api.Vec4{}},
	} {
		if got := Of(c.l); got != c.want {
			t.Errorf("Of(%v) is %v, want %v", c.l, got, c.want)
		}
	}
}

func TestP3_3OfUsesTheLengthOnly(t *testing.T) {
	for length := range 6 {
		l := []int{1, 2, 3, 4, 5, 6}
		want := api.Vec4{}
		if length > 0 {
			want.X = 1
		}
		if length > 1 {
			want.Y = 2
		}
		if length > 2 {
			want.Z = 3
		}
		if length > 3 {
			want.W = 4
		}
		if got := Of(l[:length]); got != want {
			t.Errorf("Of of %d elements, with others behind them, is %v, want %v", length, got, want)
		}
		if !slices.Equal(l, []int{1, 2, 3, 4, 5, 6}) {
			t.Errorf("Of of %d elements changes them, or others behind them, to %v", length, l)
		}
	}
}

func TestP3_3List(t *testing.T) {
	for _, v := range append(vectors(100), api.Vec4{}, vector(1, 2, 3, 4), vector(largest, smallest, most+1, -most-1)) {
		if got := List(v); !slices.Equal(got, []int{v.X, v.Y, v.Z, v.W}) {
			t.Errorf("List(%v) is %v", v, got)
		}
	}
	v := vector(1, 2, 3, 4)
	first, second := List(v), List(v)
	first[0] = 99
	if second[0] != 1 || List(v)[0] != 1 {
		t.Error("lists share memory")
	}
}

// noComponents returns numbers of which none is that of a component, although some look like one if bits are dropped.
func noComponents() []int {
	return []int{-1, -2, -3, -4, -5, 4, 5, 6, 7, 8, 255, 256, 257, -256, 1 << 16, 1 << 32, 1<<32 + 1, 1<<32 + 3, -1 << 32, 2 - 1<<32,
		1 << 62, smallest, smallest + 1, smallest + 3, largest, largest - 3}
}

func TestP3_3Component(t *testing.T) {
	for _, v := range append(vectors(100), vector(1, 2, 3, 4)) {
		for i, want := range []int{v.X, v.Y, v.Z, v.W} {
			if got := Component(v, i); got != want {
				t.Errorf("Component(%v, %d) is %d, want %d", v, i, got, want)
			}
		}
		for _, i := range noComponents() {
			if got := Component(v, i); got != 0 {
				t.Errorf("Component(%v, %d) is %d, want 0", v, i, got)
			}
		}
	}
}

func TestP3_3With(t *testing.T) {
	for _, v := range append(vectors(100), vector(1, 2, 3, 4)) {
		for _, x := range []int{smallest, -most - 1, -1, 0, 7, most + 1, largest} {
			for i, want := range []api.Vec4{vector(x, v.Y, v.Z, v.W), vector(v.X, x, v.Z, v.W), vector(v.X, v.Y, x, v.W), vector(v.X, v.Y, v.Z, x)} {
				if got := With(v, i, x); got != want {
					t.Errorf("With(%v, %d, %d) is %v, want %v", v, i, x, got, want)
				}
			}
			for _, i := range noComponents() {
				if got := With(v, i, x); got != v {
					t.Errorf("With(%v, %d, %d) is %v", v, i, x, got)
				}
			}
		}
	}
}

func TestP3_4AddMulAndDotAreCommutative(t *testing.T) {
	all := vectors(200)
	for _, a := range all {
		for _, b := range all {
			if Add(a, b) != Add(b, a) || Mul(a, b) != Mul(b, a) || Dot(a, b) != Dot(b, a) {
				t.Fatalf("Add, Mul or Dot of %v and %v depends on their order", a, b)
			}
		}
	}
}

func TestP3_4OfRestoresLists(t *testing.T) {
	for _, v := range append(vectors(1000), api.Vec4{}, vector(1, 2, 3, 4)) {
		if got := Of(List(v)); got != v {
			t.Errorf("Of(List(%v)) is %v", v, got)
		}
	}
}
