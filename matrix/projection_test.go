package matrix

import (
	"math/big"
	"testing"

	"frustum/api"
)

// quotient computes a*One/b exactly, rounds it to the nearest integer, halves away from zero, and saturates it.
func quotient(a, b int) int {
	n := new(big.Int).Mul(big.NewInt(int64(a)), big.NewInt(one))
	d := big.NewInt(int64(b))
	rounded := new(big.Int).Abs(n)
	rounded.Lsh(rounded, 1).Add(rounded, new(big.Int).Abs(d)).Quo(rounded, new(big.Int).Lsh(new(big.Int).Abs(d), 1))
	sign := n.Sign() * d.Sign()
	if rounded.Cmp(big.NewInt(most)) > 0 {
		return most * sign
	}
	return int(rounded.Int64()) * sign
}

// box is the arguments of Orthographic.
type box struct{ left, right, bottom, top, near, far int }

func checkOrthographic(t *testing.T, b box, want api.Matrix, code api.Errno) {
	t.Helper()
	got, gotCode := Orthographic(b.left, b.right, b.bottom, b.top, b.near, b.far)
	if got != want || gotCode != code {
		t.Errorf("Orthographic(%+v) is %v, %d, want %v, %d", b, got, gotCode, want, code)
	}
}

func checkBadBox(t *testing.T, b box) {
	t.Helper()
	checkOrthographic(t, b, api.Matrix{}, api.ErrArgument)
}

func TestP4_4Orthographic(t *testing.T) {
	checkOrthographic(t, box{-one, one, -one, one, 0, one}, Identity(), api.OK)
	checkOrthographic(t, box{0, 4 * one, 0, 2 * one, one, 3 * one}, api.Matrix{
		half, 0, 0, -one,
		0, one, 0, -one,
		0, 0, half, -half,
		0, 0, 0, one,
	}, api.OK)
	checkOrthographic(t, box{one, 3 * one, -5 * one, -one, -one, 7 * one}, api.Matrix{
		one, 0, 0, -2 * one,
		0, half, 0, 3 * half,
		0, 0, one / 8, one / 8,
		0, 0, 0, one,
	}, api.OK)
}

// The quotients of three are rounded up and down; those of 1 and 2*One, and of 1 and 2*One + 1, are a half and less than a half.
func TestP4_4OrthographicIsRounded(t *testing.T) {
	checkOrthographic(t, box{0, 3 * one, -one, 2 * one, one, 4 * one}, api.Matrix{
		43691, 0, 0, -one,
		0, 43691, 0, -21845,
		0, 0, 21845, -21845,
		0, 0, 0, one,
	}, api.OK)
	checkOrthographic(t, box{-one, one + 1, 1 - one, one + 1, 1, 2*one + 1}, api.Matrix{
		65536, 0, 0, 0,
		0, one, 0, -1,
		0, 0, half, -1,
		0, 0, 0, one,
	}, api.OK)
	checkOrthographic(t, box{-one - 1, one - 1, -one - 2, one - 1, 1, 2*one + 2}, api.Matrix{
		one, 0, 0, 1,
		0, 65536, 0, 1,
		0, 0, half, 0,
		0, 0, 0, one,
	}, api.OK)
}

func TestP4_4OrthographicAtTheLimits(t *testing.T) {
	checkOrthographic(t, box{0, 256, 0, 257, 0, 256}, api.Matrix{
		1 << 25, 0, 0, -one,
		0, 33423870, 0, -one,
		0, 0, 1 << 24, 0,
		0, 0, 0, one,
	}, api.OK)
	// The difference of the limits is saturated, and so are the sums and the quotients of bounds at one limit.
	checkOrthographic(t, box{-most, most, -most, most, -most, most}, api.Matrix{
		16, 0, 0, 0,
		0, 16, 0, 0,
		0, 0, 8, one,
		0, 0, 0, one,
	}, api.OK)
	checkOrthographic(t, box{most - 256, most, -most, 256 - most, most - 256, most}, api.Matrix{
		1 << 25, 0, 0, -most,
		0, 1 << 25, 0, most,
		0, 0, 1 << 24, -most,
		0, 0, 0, one,
	}, api.OK)
	checkOrthographic(t, box{-most, 0, 0, most, -most, 256 - most}, api.Matrix{
		16, 0, 0, one,
		0, 16, 0, -one,
		0, 0, 1 << 24, most,
		0, 0, 0, one,
	}, api.OK)
	checkOrthographic(t, box{-most, most - one, one - most, most, -most, one}, api.Matrix{
		16, 0, 0, 8,
		0, 16, 0, -8,
		0, 0, 8, one,
		0, 0, 0, one,
	}, api.OK)
}

// side is two bounds.
type side struct{ low, high int }

func goodSides() []side {
	return []side{
		{0, 256}, {0, 257}, {-128, 128}, {-256, 0}, {-257, 0}, {1, 257}, {-one, one}, {one, 3 * one}, {-3 * one, -one}, {-5, 1000}, {12345, 99999},
		{most - 256, most}, {most - 257, most}, {-most, 256 - most}, {-most, 257 - most}, {-most, most}, {1 - most, most}, {-most, most - 1},
		{-most, 0}, {0, most}, {-1 << 28, 1 << 28}, {-1 << 28, 1<<28 - 1}, {-1 << 28, 1<<28 - 2},
	}
}

// badSides returns bounds that are equal, too near, in the wrong order or not saturated, some with a difference that overflows to a positive one.
func badSides() []side {
	return []side{
		{0, 0}, {one, one}, {most, most}, {-most, -most}, {0, 1}, {0, 255}, {-255, 0}, {-127, 128}, {5, 260}, {most - 255, most}, {-most, 255 - most},
		{1, 0}, {256, 0}, {257, 0}, {one, -one}, {most, -most}, {most, most - 256},
		{0, most + 1}, {most, most + 1}, {most - 300, most + 1}, {-most - 1, 0}, {-most - 1, -most}, {-most - 1, 300 - most}, {-most - 1, most},
		{-most, most + 1}, {-most - 1, most + 1}, {most + 1, most + 1000}, {-most - 1000, -most - 1}, {0, 1 << 32}, {-1 << 32, 0}, {1 << 32, 1<<32 + 300},
		{-1 << 62, 1 << 62}, {1 << 62, -1 << 62}, {smallest, largest}, {largest, smallest}, {smallest, 0}, {0, largest}, {0, smallest}, {largest, 0},
		{largest - 1000, largest}, {smallest, smallest + 1000}, {largest - 100, smallest + 1000}, {largest, smallest + 300}, {largest, -most}, {most, smallest},
	}
}

func orthographic(x, y, z side) api.Matrix {
	width, height, depth := saturated(x.high-x.low), saturated(y.high-y.low), saturated(z.high-z.low)
	return api.Matrix{
		quotient(2*one, width), 0, 0, quotient(-saturated(x.high+x.low), width),
		0, quotient(2*one, height), 0, quotient(-saturated(y.high+y.low), height),
		0, 0, quotient(one, depth), quotient(-z.low, depth),
		0, 0, 0, one,
	}
}

func TestP4_4OrthographicOfAllGoodSides(t *testing.T) {
	for _, x := range goodSides() {
		for _, y := range goodSides() {
			for _, z := range goodSides() {
				checkOrthographic(t, box{x.low, x.high, y.low, y.high, z.low, z.high}, orthographic(x, y, z), api.OK)
			}
		}
	}
}

func TestP4_4OrthographicRejectsBadSides(t *testing.T) {
	for _, bad := range badSides() {
		for _, good := range goodSides() {
			checkBadBox(t, box{bad.low, bad.high, good.low, good.high, good.low, good.high})
			checkBadBox(t, box{good.low, good.high, bad.low, bad.high, good.low, good.high})
			checkBadBox(t, box{good.low, good.high, good.low, good.high, bad.low, bad.high})
		}
		for _, other := range badSides() {
			checkBadBox(t, box{bad.low, bad.high, other.low, other.high, 0, one})
			checkBadBox(t, box{bad.low, bad.high, 0, one, other.low, other.high})
			checkBadBox(t, box{0, one, bad.low, bad.high, other.low, other.high})
			checkBadBox(t, box{bad.low, bad.high, other.low, other.high, bad.low, bad.high})
		}
	}
}

// isGood tells, without overflow, whether bounds are accepted.
func (s side) isGood() bool {
	limit := big.NewInt(most)
	low, high := big.NewInt(int64(s.low)), big.NewInt(int64(s.high))
	if low.CmpAbs(limit) > 0 || high.CmpAbs(limit) > 0 {
		return false
	}
	return new(big.Int).Sub(high, low).Cmp(big.NewInt(256)) >= 0
}

func TestP4_4OrthographicOfAllNumbers(t *testing.T) {
	for place := range 3 {
		for _, low := range numbers() {
			for _, high := range numbers() {
				sides := [3]side{{-one, one}, {-one, one}, {-one, one}}
				sides[place] = side{low, high}
				b := box{sides[0].low, sides[0].high, sides[1].low, sides[1].high, sides[2].low, sides[2].high}
				if sides[place].isGood() {
					checkOrthographic(t, b, orthographic(sides[0], sides[1], sides[2]), api.OK)
				} else {
					checkBadBox(t, b)
				}
			}
		}
	}
}

// lens is the arguments of Perspective.
type lens struct{ focal, aspect, near, far int }

func checkPerspective(t *testing.T, l lens, want api.Matrix, code api.Errno) {
	t.Helper()
	got, gotCode := Perspective(l.focal, l.aspect, l.near, l.far)
	if got != want || gotCode != code {
		t.Errorf("Perspective(%+v) is %v, %d, want %v, %d", l, got, gotCode, want, code)
	}
}

func checkBadLens(t *testing.T, l lens) {
	t.Helper()
	checkPerspective(t, l, api.Matrix{}, api.ErrArgument)
}

// seen returns the matrix of a perspective with the four elements that depend on the arguments.
func seen(x, y, z, shift int) api.Matrix {
	return api.Matrix{
		x, 0, 0, 0,
		0, y, 0, 0,
		0, 0, z, shift,
		0, 0, one, 0,
	}
}

func TestP4_5Perspective(t *testing.T) {
	for _, c := range []struct {
		l    lens
		want api.Matrix
	}{
		{lens{one, one, one, 2 * one}, seen(one, one, 2*one, -2*one)},
		{lens{3 * one, 2 * one, one, 5 * one}, seen(3*half, 3*one, 5*one/4, -5*one/4)},
		{lens{one, 4 * one, 2 * one, 10 * one}, seen(one/4, one, 5*one/4, -5*half)},
		{lens{half, one / 8, half, 3 * half}, seen(4*one, half, 3*half, -3*one/4)},
		// Each quotient is rounded, halves away from zero.
		{lens{2 * one, 3 * one, one, 4 * one}, seen(43691, 2*one, 87381, -87381)},
		{lens{384, 256 * one, one, 2 * one}, seen(2, 384, 2*one, -2*one)}, {lens{383, 256 * one, one, 2 * one}, seen(1, 383, 2*one, -2*one)},
		// The product of 640 and 256 is rounded to 3 before it is divided; that of 639 and 256 to 2.
		{lens{one, one, 256, 640}, seen(one, one, 109227, -512)}, {lens{one, one, 256, 639}, seen(one, one, 109341, -342)},
	} {
		checkPerspective(t, c.l, c.want, api.OK)
	}
}

func TestP4_5PerspectiveAtTheLimits(t *testing.T) {
	for _, c := range []struct {
		l    lens
		want api.Matrix
	}{
		{lens{256, 256, 256, 512}, seen(one, 256, 2*one, -512)},
		{lens{256, 256 * one, 256, 512}, seen(1, 256, 2*one, -512)},
		{lens{256 * one, 256 * one, one, 4096 * one}, seen(one, 256*one, 65552, -65552)},
		{lens{256, one, 256, 4096 * one}, seen(256, 256, one, -256)},
		// The quotient of focal and aspect, the product of far and near, and the quotients of both are saturated.
		{lens{256 * one, 256, one, 2 * one}, seen(most, 256*one, 2*one, -2*one)},
		{lens{one, one, 256 * one, 4096 * one}, seen(one, one, 69905, -139810)},
		{lens{one, one, 256 * one, 256*one + 256}, seen(one, one, most, -most)},
		{lens{one, one, 2 * one, 4096 * one}, seen(one, one, 65568, -131136)}, {lens{one, one, 3 * one, 4096 * one}, seen(one, one, 65584, -131168)},
	} {
		checkPerspective(t, c.l, c.want, api.OK)
	}
}

func perspective(l lens) api.Matrix {
	depth := l.far - l.near
	// The exact product is divided by One like a quotient of a product, and rounded before the second division.
	product := new(big.Int).Mul(big.NewInt(int64(l.far)), big.NewInt(int64(l.near)))
	product.Add(product, big.NewInt(half)).Quo(product, big.NewInt(one))
	return seen(quotient(l.focal, l.aspect), l.focal, quotient(l.far, depth), -quotient(saturated(int(product.Int64())), depth))
}

func goodFactors() []int {
	return []int{256, 257, 1000, half, one - 1, one, one + 1, 3 * one, 255*one + 7, 256*one - 1, 256 * one}
}

func badFactors() []int {
	return []int{255, 254, 128, 1, 0, -1, -255, -256, -257, -one, -256 * one, 256*one + 1, 257 * one, 4096 * one, most, -most, most + 1, -most - 1,
		1<<32 + one, one - 1<<32, 1 << 32, 1 << 48, 1 << 62, 1<<62 + one, largest, largest - 256, smallest, smallest + 256, smallest + one}
}

func goodFars(near int) []int {
	return []int{near + 256, near + 257, near + one, near + 5*one, 2*near + 256, 300 * one, 1000*one + 1, 4096*one - 1, 4096 * one}
}

func badFars(near int) []int {
	return []int{near + 255, near + 254, near + 1, near, near - 1, near - 256, near - 257, 255, 0, -1, -near - 256, -4096 * one,
		4096*one + 1, 4097 * one, most, -most, most + 1, -most - 1, 1<<32 + near + one, 1 << 48, 1 << 62, largest, largest - 1, smallest, smallest + 300}
}

func TestP4_5PerspectiveOfAllGoodArguments(t *testing.T) {
	for _, focal := range goodFactors() {
		for _, aspect := range goodFactors() {
			for _, near := range goodFactors() {
				for _, far := range goodFars(near) {
					l := lens{focal, aspect, near, far}
					checkPerspective(t, l, perspective(l), api.OK)
				}
			}
		}
	}
}

func TestP4_5PerspectiveRejectsBadArguments(t *testing.T) {
	for _, good := range goodFactors() {
		for _, bad := range badFactors() {
			for _, far := range goodFars(good) {
				checkBadLens(t, lens{bad, good, good, far})
				checkBadLens(t, lens{good, bad, good, far})
				checkBadLens(t, lens{bad, bad, good, far})
			}
			// The sum of near and One/256 may overflow to less than far here.
			for _, far := range append(goodFars(good), badFars(good)...) {
				checkBadLens(t, lens{good, good, bad, far})
				checkBadLens(t, lens{bad, good, bad, far})
			}
			for _, far := range append(goodFars(bad), badFars(bad)...) {
				checkBadLens(t, lens{good, good, bad, far})
				checkBadLens(t, lens{bad, bad, bad, far})
			}
		}
		for _, far := range badFars(good) {
			checkBadLens(t, lens{good, good, good, far})
			checkBadLens(t, lens{one, one, good, far})
		}
	}
}

// isGood tells, without overflow, whether the arguments are accepted.
func (l lens) isGood() bool {
	for _, x := range []int{l.focal, l.aspect, l.near} {
		if x < 256 || x > 256*one {
			return false
		}
	}
	distance := new(big.Int).Sub(big.NewInt(int64(l.far)), big.NewInt(int64(l.near)))
	return distance.Cmp(big.NewInt(256)) >= 0 && l.far <= 4096*one
}

func TestP4_5PerspectiveOfAllNumbers(t *testing.T) {
	for _, x := range numbers() {
		for _, y := range numbers() {
			for _, l := range []lens{{x, y, one, 2 * one}, {x, one, y, 4096 * one}, {x, one, 256, y}, {one, x, y, 4096 * one}, {one, x, 256, y}, {one, one, x, y}} {
				if l.isGood() {
					checkPerspective(t, l, perspective(l), api.OK)
				} else {
					checkBadLens(t, l)
				}
			}
		}
	}
}
