package matrix

import (
	"math"
	"testing"

	"frustum/api"
	"frustum/vec"
)

const (
	one      = api.One
	half     = api.One / 2
	most     = api.MaxValue
	largest  = math.MaxInt
	smallest = math.MinInt
)

func vector(x, y, z, w int) api.Vec4 {
	return api.Vec4{X: x, Y: y, Z: z, W: w}
}

// same returns the vector of four equal components.
func same(x int) api.Vec4 {
	return vector(x, x, x, x)
}

// axes returns the four vectors that have one component x, and 0 elsewhere.
func axes(x int) []api.Vec4 {
	return []api.Vec4{{X: x}, {Y: x}, {Z: x}, {W: x}}
}

// filled returns the matrix of sixteen equal elements.
func filled(x int) api.Matrix {
	return api.Matrix{x, x, x, x, x, x, x, x, x, x, x, x, x, x, x, x}
}

// single returns the matrix that has one element x, and 0 elsewhere.
func single(element, x int) api.Matrix {
	var m api.Matrix
	m[element] = x
	return m
}

// counted returns the matrix of the elements 1 to 16 times k.
func counted(k int) api.Matrix {
	return api.Matrix{k, 2 * k, 3 * k, 4 * k, 5 * k, 6 * k, 7 * k, 8 * k, 9 * k, 10 * k, 11 * k, 12 * k, 13 * k, 14 * k, 15 * k, 16 * k}
}

// unsaturated returns a matrix whose elements are different and beyond the limits of saturation.
func unsaturated() api.Matrix {
	return api.Matrix{
		largest, smallest, most + 1, -most - 1,
		largest - 1, smallest + 1, most + 2, -most - 2,
		1 << 62, -1 << 62, 1 << 32, -1 << 32,
		1<<48 + 1, 1 - 1<<48, most + 3, -most - 3,
	}
}

// numbers returns numbers of the whole range of int: those next to 0, to halves and multiples of One, to the limits of the arguments of
// projections, to the limits of saturation, and to powers of two beyond them.
func numbers() []int {
	values := []int{smallest, smallest + 1, largest - 1, largest}
	for _, center := range []int{0, 256, half, one, 3 * half, 5 * one, 256 * one, 4096 * one, most, 1 << 32, 1 << 48, 1 << 62} {
		for near := center - 1; near <= center+1; near++ {
			values = append(values, near, -near)
		}
	}
	return values
}

// picker returns a function that returns arbitrary numbers of a list, the same in each run.
func picker(values []int) func() int {
	state := uint64(1)
	return func() int {
		state = state*6364136223846793005 + 1442695040888963407
		return values[state>>33%uint64(len(values))]
	}
}

// matrices returns the matrices in which each element by itself takes the numbers of a list, and count arbitrary matrices of them.
func matrices(values []int, count int) []api.Matrix {
	var result []api.Matrix
	for _, x := range values {
		for element := range 16 {
			result = append(result, single(element, x))
		}
	}
	pick := picker(values)
	for range count {
		var m api.Matrix
		for element := range m {
			m[element] = pick()
		}
		result = append(result, m)
	}
	return result
}

// vectors returns the vectors in which each component by itself takes the numbers of a list, and count arbitrary vectors of them.
func vectors(values []int, count int) []api.Vec4 {
	var result []api.Vec4
	for _, x := range values {
		result = append(result, axes(x)...)
	}
	pick := picker(values)
	for range count {
		result = append(result, api.Vec4{X: pick(), Y: pick(), Z: pick(), W: pick()})
	}
	return result
}

// noRows returns numbers of which none is that of a row, although some look like one if bits are dropped.
func noRows() []int {
	return []int{-1, -2, -3, -4, -5, 4, 5, 6, 7, 8, 15, 16, 255, 256, 257, -256, 1 << 16, 1 << 32, 1<<32 + 1, 1<<32 + 3, -1 << 32, 2 - 1<<32,
		1 << 60, 1 << 61, 1 << 62, 1<<62 + 1, -1 << 62, 3 - 1<<62, smallest, smallest + 1, smallest + 3, largest, largest - 3}
}

func checkRow(t *testing.T, m api.Matrix, r int, want api.Vec4) {
	t.Helper()
	if got := Row(m, r); got != want {
		t.Errorf("Row(%v, %d) is %v, want %v", m, r, got, want)
	}
}

func TestP4_1Row(t *testing.T) {
	for _, m := range append(matrices(numbers(), 100), counted(1), unsaturated()) {
		checkRow(t, m, 0, vector(m[0], m[1], m[2], m[3]))
		checkRow(t, m, 1, vector(m[4], m[5], m[6], m[7]))
		checkRow(t, m, 2, vector(m[8], m[9], m[10], m[11]))
		checkRow(t, m, 3, vector(m[12], m[13], m[14], m[15]))
	}
}

func TestP4_1RowOutside(t *testing.T) {
	for _, m := range []api.Matrix{{}, counted(1), Identity(), filled(most), unsaturated()} {
		for _, r := range noRows() {
			checkRow(t, m, r, api.Vec4{})
		}
	}
}

func TestP4_1Identity(t *testing.T) {
	want := api.Matrix{
		one, 0, 0, 0,
		0, one, 0, 0,
		0, 0, one, 0,
		0, 0, 0, one,
	}
	if got := Identity(); got != want {
		t.Errorf("Identity() is %v, want %v", got, want)
	}
}

func TestP4_1Transpose(t *testing.T) {
	want := api.Matrix{
		1, 5, 9, 13,
		2, 6, 10, 14,
		3, 7, 11, 15,
		4, 8, 12, 16,
	}
	if got := Transpose(counted(1)); got != want {
		t.Errorf("Transpose(%v) is %v, want %v", counted(1), got, want)
	}
	for _, m := range append(matrices(numbers(), 100), unsaturated()) {
		got := Transpose(m)
		for r := range 4 {
			for c := range 4 {
				if got[4*c+r] != m[4*r+c] {
					t.Fatalf("Transpose(%v) has %d in row %d and column %d", m, got[4*c+r], c, r)
				}
			}
		}
	}
}

// applied is a call of Apply and the result that the document requires.
type applied struct {
	m       api.Matrix
	v, want api.Vec4
}

func checkApply(t *testing.T, name string, cases []applied) {
	t.Helper()
	for _, c := range cases {
		if got := Apply(c.m, c.v); got != c.want {
			t.Errorf("%s: Apply(%v, %v) is %v, want %v", name, c.m, c.v, got, c.want)
		}
	}
}

func TestP4_2Apply(t *testing.T) {
	checkApply(t, "ordinary arguments", []applied{
		{Translate(one, 0, 0), vector(0, 0, 0, one), vector(one, 0, 0, one)},
		{counted(one), vector(1, 2, 3, 4), vector(30, 70, 110, 150)},
		{counted(one), vector(1, -2, 3, -4), vector(-10, -18, -26, -34)},
		{counted(-one), vector(1000, 100, 10, 1), vector(-1234, -5678, -10122, -14566)},
		{api.Matrix{}, same(most), api.Vec4{}}, {filled(most), api.Vec4{}, api.Vec4{}},
	})
	for element := range 16 {
		for component, v := range axes(7) {
			want := api.Vec4{}
			if component == element%4 {
				want = axes(21)[element/4]
			}
			checkApply(t, "one element", []applied{{single(element, 3*one), v, want}})
		}
	}
}

func TestP4_2ApplyIsRoundedOnce(t *testing.T) {
	checkApply(t, "halves and their neighbors", []applied{
		{ScaleBy(half, half-1, half+1), same(1), vector(1, 0, 1, 1)}, {ScaleBy(half, half-1, half+1), same(-1), vector(-1, 0, -1, -1)},
		{ScaleBy(-half, 1-half, -half-1), same(1), vector(-1, 0, -1, 1)}, {ScaleBy(half, half, half), vector(3, -3, 5, 0), vector(2, -2, 3, 0)},
	})
	// The products are halves or less, so that each of them by itself is rounded to another number.
	checkApply(t, "sums of fractions", []applied{
		{filled(half), same(1), same(2)}, {filled(half), same(-1), same(-2)}, {filled(-half), same(-1), same(2)},
		{filled(half / 4), same(1), same(1)}, {filled(half / 4), same(-1), same(-1)}, {filled(half - 1), same(1), same(2)},
		{filled(1), vector(half/4, half/4, half/4, half/4-1), api.Vec4{}}, {filled(-1), vector(half/4, half/4, half/4, half/4), same(-1)},
		{api.Matrix{half, half, half, 0, half, -half, half, -half, half, half, -1, 0, 0, 0, 0, half}, same(1), vector(2, 0, 1, 1)},
	})
}

func TestP4_2ApplyIsSaturated(t *testing.T) {
	checkApply(t, "sums at the limits", []applied{
		{filled(most), same(most), same(most)}, {filled(most), same(-most), same(-most)},
		{filled(one), same(1 << 27), same(most)}, {filled(one), same(-1 << 27), same(-most)}, {filled(one), same(1<<27 - 1), same(1<<29 - 4)},
		{Translate(most, -most, 1-most), vector(1, -1, -1, one), vector(most, -most, -most, one)},
	})
	// Only the sum is saturated: products that exceed the limits cancel out exactly.
	cancelling := api.Matrix{
		most, most, 0, 5,
		0, most, most, -7,
		most, most, most, 5,
		-most, 0, 0, 5,
	}
	checkApply(t, "large products", []applied{
		{cancelling, vector(most, -most, most, one), vector(5, -7, most, -most)},
		{cancelling, vector(-most, most, -most, one), vector(5, -7, -most, most)},
		{filled(most), vector(2*one, one, -one, -2*one), api.Vec4{}},
	})
	checkApply(t, "elements and components that are not saturated", []applied{
		{filled(largest), same(largest), same(most)}, {filled(smallest), same(largest), same(-most)}, {filled(smallest), same(smallest), same(most)},
		{filled(most + 1), vector(1, 0, 0, 0), same(8192)}, {filled(1), vector(0, 0, 0, largest), same(8192)},
		{filled(one), vector(largest, smallest, most+1, -most-1), api.Vec4{}},
		{unsaturated(), vector(1, 1, 1, 0), same(8192)}, {unsaturated(), vector(one, one, 0, 0), api.Vec4{}},
		{unsaturated(), vector(0, one, 0, one), same(-most)},
	})
}

func TestP4_2ApplyIsDotOfRows(t *testing.T) {
	values := numbers()
	for _, m := range matrices(values, 500) {
		for _, v := range vectors(values, 50) {
			want := vector(
				vec.Dot(vector(m[0], m[1], m[2], m[3]), v),
				vec.Dot(vector(m[4], m[5], m[6], m[7]), v),
				vec.Dot(vector(m[8], m[9], m[10], m[11]), v),
				vec.Dot(vector(m[12], m[13], m[14], m[15]), v),
			)
			if got := Apply(m, v); got != want {
				t.Fatalf("Apply(%v, %v) is %v, want %v", m, v, got, want)
			}
		}
	}
}

// multiplied is a call of Mul and the result that the document requires.
type multiplied struct{ a, b, want api.Matrix }

func checkMul(t *testing.T, name string, cases []multiplied) {
	t.Helper()
	for _, c := range cases {
		if got := Mul(c.a, c.b); got != c.want {
			t.Errorf("%s: Mul(%v, %v) is %v, want %v", name, c.a, c.b, got, c.want)
		}
	}
}

func TestP4_2Mul(t *testing.T) {
	checkMul(t, "ordinary matrices", []multiplied{
		{counted(one), counted(1), api.Matrix{
			90, 100, 110, 120,
			202, 228, 254, 280,
			314, 356, 398, 440,
			426, 484, 542, 600,
		}},
		{counted(-one), Transpose(counted(1)), api.Matrix{
			-30, -70, -110, -150,
			-70, -174, -278, -382,
			-110, -278, -446, -614,
			-150, -382, -614, -846,
		}},
		{api.Matrix{}, filled(most), api.Matrix{}}, {filled(most), api.Matrix{}, api.Matrix{}},
	})
	for left := range 16 {
		for right := range 16 {
			want := api.Matrix{}
			if left%4 == right/4 {
				want[left/4*4+right%4] = 21
			}
			checkMul(t, "one element of each", []multiplied{{single(left, 3*one), single(right, 7), want}})
		}
	}
}

func TestP4_2MulKeepsTheOrder(t *testing.T) {
	checkMul(t, "a translation and a scaling", []multiplied{
		{Translate(one, 2*one, 3*one), ScaleBy(2*one, 3*one, 4*one), api.Matrix{
			2 * one, 0, 0, one,
			0, 3 * one, 0, 2 * one,
			0, 0, 4 * one, 3 * one,
			0, 0, 0, one,
		}},
		{ScaleBy(2*one, 3*one, 4*one), Translate(one, 2*one, 3*one), api.Matrix{
			2 * one, 0, 0, 2 * one,
			0, 3 * one, 0, 6 * one,
			0, 0, 4 * one, 12 * one,
			0, 0, 0, one,
		}},
	})
	turnX := api.Matrix{one, 0, 0, 0, 0, 0, -one, 0, 0, one, 0, 0, 0, 0, 0, one}
	turnZ := api.Matrix{0, -one, 0, 0, one, 0, 0, 0, 0, 0, one, 0, 0, 0, 0, one}
	checkMul(t, "two rotations", []multiplied{
		{turnX, turnZ, api.Matrix{0, -one, 0, 0, 0, 0, -one, 0, one, 0, 0, 0, 0, 0, 0, one}},
		{turnZ, turnX, api.Matrix{0, 0, one, 0, one, 0, 0, 0, 0, one, 0, 0, 0, 0, 0, one}},
	})
}

func TestP4_2MulIsRoundedOnce(t *testing.T) {
	checkMul(t, "halves and sums of fractions", []multiplied{
		{single(0, half), single(3, 1), single(3, 1)}, {single(0, half), single(3, -1), single(3, -1)},
		{single(0, half-1), single(3, 1), api.Matrix{}}, {single(0, half-1), single(3, -1), api.Matrix{}},
		{single(14, -half), single(9, 3), single(13, -2)}, {single(14, -half), single(9, -3), single(13, 2)},
		{filled(half), filled(1), filled(2)}, {filled(half), filled(-1), filled(-2)}, {filled(-half), filled(-1), filled(2)},
		{filled(half / 4), filled(1), filled(1)}, {filled(1), filled(-half / 4), filled(-1)}, {filled(half/4 - 1), filled(1), api.Matrix{}},
	})
}

func TestP4_2MulIsSaturated(t *testing.T) {
	checkMul(t, "sums at the limits and beyond", []multiplied{
		{filled(most), filled(most), filled(most)}, {filled(most), filled(-most), filled(-most)}, {filled(-most), filled(-most), filled(most)},
		{filled(one), filled(1 << 27), filled(most)}, {filled(-1 << 27), filled(one), filled(-most)}, {filled(one), filled(1<<27 - 1), filled(1<<29 - 4)},
	})
	alternating := api.Matrix{
		most, 0, 5, 1,
		-most, most, 0, 1,
		most, most, 0, 1,
		-most, -most, 0, 1,
	}
	column := []api.Vec4{same(0), same(most), same(5 * 8192), same(4 * 8192)}
	row := vector(0, most, 5*8192, 4*8192)
	checkMul(t, "large products that cancel out", []multiplied{
		{filled(most), alternating, ofVectors(row, row, row, row)},
		{Transpose(alternating), filled(most), ofVectors(column...)},
	})
	checkMul(t, "elements that are not saturated", []multiplied{
		{filled(largest), filled(largest), filled(most)}, {filled(smallest), filled(largest), filled(-most)}, {filled(smallest), filled(smallest), filled(most)},
		{single(0, most+1), single(0, 1), single(0, 8192)}, {single(0, 1), single(0, smallest), single(0, -8192)},
		{single(15, one), single(15, largest), single(15, most)}, {single(15, -most-1), single(15, one), single(15, -most)},
		{unsaturated(), filled(one), api.Matrix{}}, {filled(1), unsaturated(), ofVectors(extremes(4), extremes(4), extremes(4), extremes(4))},
	})
}

// extremes returns the saturated sums of k products of 1 and the columns of unsaturated.
func extremes(k int) api.Vec4 {
	return vector(8192*k, -8192*k, 8192*k, -8192*k)
}

// ofVectors returns the matrix of four rows.
func ofVectors(rows ...api.Vec4) api.Matrix {
	var m api.Matrix
	for r, v := range rows {
		m[4*r], m[4*r+1], m[4*r+2], m[4*r+3] = v.X, v.Y, v.Z, v.W
	}
	return m
}

func TestP4_2MulIsDotOfRowsAndColumns(t *testing.T) {
	all := matrices(numbers(), 200)
	for i, a := range all {
		// Each matrix is multiplied by some of the others only, because all pairs would take too long.
		for j := i % 7; j < len(all); j += 7 {
			b := all[j]
			got := Mul(a, b)
			for r := range 4 {
				for c := range 4 {
					want := vec.Dot(vector(a[4*r], a[4*r+1], a[4*r+2], a[4*r+3]), vector(b[c], b[4+c], b[8+c], b[12+c]))
					if got[4*r+c] != want {
						t.Fatalf("Mul(%v, %v) has %d in row %d and column %d, want %d", a, b, got[4*r+c], r, c, want)
					}
				}
			}
		}
	}
}

// shift is a call of Translate or ScaleBy, and the three numbers that the document requires in its result.
type shift struct{ x, y, z, wantX, wantY, wantZ int }

// shifts returns calls with ordinary numbers, with numbers at the limits of saturation, and with numbers beyond them in each place.
func shifts() []shift {
	return []shift{
		{0, 0, 0, 0, 0, 0}, {1, 2, 3, 1, 2, 3}, {-1, 2 * one, -3 * one, -1, 2 * one, -3 * one}, {one, one, one, one, one, one},
		{most, -most, most - 1, most, -most, most - 1}, {1 - most, most, -most, 1 - most, most, -most},
		{most + 1, 5, 6, most, 5, 6}, {4, most + 1, 6, 4, most, 6}, {4, 5, most + 1, 4, 5, most},
		{-most - 1, 5, 6, -most, 5, 6}, {4, -most - 1, 6, 4, -most, 6}, {4, 5, -most - 1, 4, 5, -most},
		{largest, smallest, largest, most, -most, most}, {smallest, largest, smallest, -most, most, -most},
		{1 << 32, -1 << 32, 1<<32 + 7, most, -most, most}, {1<<62 + 1, 1 - 1<<62, -1 << 48, most, -most, -most},
	}
}

func TestP4_3Translate(t *testing.T) {
	for _, c := range shifts() {
		want := api.Matrix{
			one, 0, 0, c.wantX,
			0, one, 0, c.wantY,
			0, 0, one, c.wantZ,
			0, 0, 0, one,
		}
		if got := Translate(c.x, c.y, c.z); got != want {
			t.Errorf("Translate(%d, %d, %d) is %v, want %v", c.x, c.y, c.z, got, want)
		}
	}
}

func TestP4_3ScaleBy(t *testing.T) {
	for _, c := range shifts() {
		want := api.Matrix{
			c.wantX, 0, 0, 0,
			0, c.wantY, 0, 0,
			0, 0, c.wantZ, 0,
			0, 0, 0, one,
		}
		if got := ScaleBy(c.x, c.y, c.z); got != want {
			t.Errorf("ScaleBy(%d, %d, %d) is %v, want %v", c.x, c.y, c.z, got, want)
		}
	}
}

func saturated(x int) int {
	return max(-most, min(x, most))
}

func TestP4_6ApplyOfIdentity(t *testing.T) {
	for _, v := range vectors(numbers(), 1000) {
		want := vector(saturated(v.X), saturated(v.Y), saturated(v.Z), saturated(v.W))
		checkApply(t, "the identity", []applied{{Identity(), v, want}})
	}
}

func TestP4_6MulWithIdentity(t *testing.T) {
	for _, m := range append(matrices(numbers(), 1000), counted(1), unsaturated()) {
		want := m
		for element, x := range m {
			want[element] = saturated(x)
		}
		checkMul(t, "the identity", []multiplied{{Identity(), m, want}, {m, Identity(), want}, {want, Identity(), want}})
	}
}

func TestP4_6TransposeIsAnInvolution(t *testing.T) {
	for _, m := range append(matrices(numbers(), 1000), counted(1), unsaturated()) {
		if got := Transpose(Transpose(m)); got != m {
			t.Errorf("Transpose(Transpose(%v)) is %v", m, got)
		}
	}
}
