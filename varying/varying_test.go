package varying_test

import (
	"fmt"
	"math"
	"math/big"
	"slices"
	"testing"

	"frustum/api"
	"frustum/edge"
	"frustum/varying"
)

const (
	one      = api.One
	most     = api.MaxValue
	end      = api.MaxScreen
	largest  = math.MaxInt
	smallest = math.MinInt
)

// triangle returns a triangle whose vertices have these coordinates and InvW One.
func triangle(x0, y0, x1, y1, x2, y2 int) api.Triangle {
	return api.Triangle{V: [3]api.ScreenVertex{{X: x0, Y: y0, InvW: one}, {X: x1, Y: y1, InvW: one}, {X: x2, Y: y2, InvW: one}}}
}

// with returns a triangle with other InvW and Z, and with varyings.
func with(t api.Triangle, w, z [3]int, varyings ...[]int) api.Triangle {
	for i := range t.V {
		t.V[i].InvW, t.V[i].Z = w[i], z[i]
		if i < len(varyings) {
			t.V[i].Varyings = varyings[i]
		}
	}
	return t
}

// wrongTriangles returns triangles that are not valid, with Z and varyings.
func wrongTriangles() []api.Triangle {
	var list []api.Triangle
	for _, t := range []api.Triangle{{}, triangle(0, 0, 0, 256, 256, 0), triangle(1, 1, 3, 3, 7, 7), triangle(0, 0, end+1, 0, 0, end), triangle(-1, 0, 256, 0, 0, 256), triangle(smallest, smallest, largest, smallest, smallest, largest)} {
		list = append(list, with(t, [3]int{one, one, one}, [3]int{5, 6, 7}, []int{8}, []int{9}, []int{10}))
	}
	return list
}

// state makes arbitrary triangles.
type state uint64

func (s *state) next(beyond int) int {
	*s = *s*6364136223846793005 + 1442695040888963407
	return int(*s>>33) % beyond
}

// number returns a number of any magnitude, or one of the numbers at which results change.
func (s *state) number() int {
	if s.next(3) == 0 {
		return []int{0, 1, -1, one, -one, one / 2, one - 1, one + 1, 256 * one, 256*one + 1, most, -most, most + 1, -most - 1, largest, smallest}[s.next(16)]
	}
	*s = *s*6364136223846793005 + 1442695040888963407
	return int(*s) >> (*s >> 17 % 64)
}

func (s *state) numbers(count int) []int {
	list := make([]int, count)
	for i := range list {
		list[i] = s.number()
	}
	return list
}

// triangle returns an arbitrary valid triangle.
func (s *state) triangle() api.Triangle {
	for {
		size := []int{300, 2000, end}[s.next(3)]
		point := func() (int, int) { return s.next(size + 1), s.next(size + 1) }
		var t api.Triangle
		for i := range t.V {
			v := &t.V[i]
			v.X, v.Y = point()
			v.InvW, v.Z, v.Varyings = s.number(), s.number(), s.numbers(s.next(4))
			if s.next(2) == 0 {
				v.InvW, v.Z = s.next(256*one), s.next(one+1)
			}
		}
		if edge.Valid(t) {
			return t
		}
	}
}

// exact numbers and their operations, as chapter 1 defines them.
func exact(x int) *big.Int { return big.NewInt(int64(x)) }

func limit(x *big.Int, low, high int) *big.Int {
	switch {
	case x.Cmp(exact(low)) < 0:
		return exact(low)
	case x.Cmp(exact(high)) > 0:
		return exact(high)
	}
	return x
}

func sat(x *big.Int) *big.Int      { return limit(x, -most, most) }
func sum(a, b *big.Int) *big.Int   { return new(big.Int).Add(a, b) }
func diff(a, b *big.Int) *big.Int  { return new(big.Int).Sub(a, b) }
func times(a, b *big.Int) *big.Int { return new(big.Int).Mul(a, b) }

// rounded returns n/d for a positive d, rounded to the nearest integer, halves away from zero.
func rounded(n, d *big.Int) *big.Int {
	twice := new(big.Int).Abs(n)
	twice.Lsh(twice, 1).Add(twice, d)
	twice.Quo(twice, new(big.Int).Lsh(d, 1))
	if n.Sign() < 0 {
		twice.Neg(twice)
	}
	return twice
}

// ratio returns Ratio of P1.3.
func ratio(n, d *big.Int) int {
	switch {
	case d.Sign() <= 0 || n.Sign() <= 0:
		return 0
	case n.Cmp(d) >= 0:
		return one
	case d.Cmp(exact(1<<46)) < 0:
		return int(rounded(times(n, exact(one)), d).Int64())
	}
	return min(one, int(rounded(n, rounded(d, exact(one))).Int64()))
}

// expectedWeights returns the exact weights at a point, which is limited to the screen, multiplied by the InvW if perspective is true.
func expectedWeights(t api.Triangle, px, py int, perspective bool) [2]int {
	if !edge.Valid(t) {
		return [2]int{}
	}
	x, y := limit(exact(px), 0, end), limit(exact(py), 0, end)
	total, list := new(big.Int), make([]*big.Int, 3)
	for i := range list {
		a, b := t.V[(i+1)%3], t.V[(i+2)%3]
		e := diff(times(exact(b.X-a.X), diff(y, exact(a.Y))), times(exact(b.Y-a.Y), diff(x, exact(a.X))))
		if e.Sign() < 0 {
			e = exact(0)
		}
		if perspective {
			e = times(e, limit(exact(t.V[i].InvW), 0, 1<<24))
		}
		list[i], total = e, sum(total, e)
	}
	if total.Sign() == 0 {
		return expectedWeights(t, px, py, false)
	}
	return [2]int{ratio(list[0], total), ratio(list[1], total)}
}

// expectedMix returns what Mix must return.
func expectedMix(w [2]int, a, b, c int) int {
	part := func(w, x int) *big.Int {
		step := sat(diff(sat(exact(x)), sat(exact(c))))
		return sat(rounded(times(sat(exact(w)), step), exact(one)))
	}
	return int(sat(sum(sat(exact(c)), sat(sum(part(w[0], a), part(w[1], b))))).Int64())
}

// expectedValues returns the varyings at a point.
func expectedValues(t api.Triangle, px, py int) []int {
	if !edge.Valid(t) {
		return nil
	}
	w := expectedWeights(t, px, py, true)
	var list []int
	for i, a := range t.V[0].Varyings {
		others := [2]int{}
		for k := range others {
			if i < len(t.V[k+1].Varyings) {
				others[k] = t.V[k+1].Varyings[i]
			}
		}
		list = append(list, expectedMix(w, a, others[0], others[1]))
	}
	return list
}

// expectedInputs returns the varyings at the center of a pixel, with their derivatives behind them.
func expectedInputs(t api.Triangle, x, y int) []int {
	x, y = min(max(x, 0), 63), min(max(y, 0), 63)
	list := expectedValues(t, 256*x+128, 256*y+128)
	x, y = min(x, 62), min(y, 62)
	here := expectedValues(t, 256*x+128, 256*y+128)
	for _, there := range [][]int{expectedValues(t, 256*x+384, 256*y+128), expectedValues(t, 256*x+128, 256*y+384)} {
		for i := range there {
			list = append(list, int(sat(diff(exact(there[i]), exact(here[i]))).Int64()))
		}
	}
	return list
}

func TestP37_1Weights(t *testing.T) {
	tri := triangle(0, 0, 256, 0, 0, 256)
	near := with(tri, [3]int{one, 2 * one, 4 * one}, [3]int{})
	for _, c := range []struct {
		tri                 api.Triangle
		px, py              int
		linear, perspective [2]int
	}{
		{tri, 0, 0, [2]int{one, 0}, [2]int{one, 0}}, {tri, 256, 0, [2]int{0, one}, [2]int{0, one}}, {tri, 0, 256, [2]int{0, 0}, [2]int{0, 0}}, {tri, 128, 128, [2]int{0, one / 2}, [2]int{0, one / 2}}, {tri, 64, 64, [2]int{one / 2, one / 4}, [2]int{one / 2, one / 4}}, {tri, 128, 64, [2]int{one / 4, one / 2}, [2]int{one / 4, one / 2}},
		// Negative weights count as 0, and points are limited to the screen.
		{tri, 256, 256, [2]int{0, one / 2}, [2]int{0, one / 2}}, {tri, -5, smallest, [2]int{one, 0}, [2]int{one, 0}}, {tri, largest, 0, [2]int{0, one}, [2]int{0, one}}, {tri, 0, largest, [2]int{0, 0}, [2]int{0, 0}},
		// Weights in proportion to InvW.
		{near, 0, 0, [2]int{one, 0}, [2]int{one, 0}}, {near, 64, 64, [2]int{one / 2, one / 4}, [2]int{one / 4, one / 4}}, {near, 128, 0, [2]int{one / 2, one / 2}, [2]int{21845, 43691}}, {near, 0, 128, [2]int{one / 2, 0}, [2]int{13107, 0}}, {near, 128, 128, [2]int{0, one / 2}, [2]int{0, 21845}},
		// InvW is limited, and if all weights are 0, those without it count.
		{with(tri, [3]int{}, [3]int{}), 64, 64, [2]int{one / 2, one / 4}, [2]int{one / 2, one / 4}}, {with(tri, [3]int{-1, smallest, -one}, [3]int{}), 64, 64, [2]int{one / 2, one / 4}, [2]int{one / 2, one / 4}}, {with(tri, [3]int{0, one, 0}, [3]int{}), 64, 64, [2]int{one / 2, one / 4}, [2]int{0, one}}, {with(tri, [3]int{0, one, 0}, [3]int{}), 0, 0, [2]int{one, 0}, [2]int{one, 0}}, {with(tri, [3]int{0, one, 0}, [3]int{}), 0, 128, [2]int{one / 2, 0}, [2]int{one / 2, 0}}, {with(tri, [3]int{256 * one, largest, 1 << 40}, [3]int{}), 64, 64, [2]int{one / 2, one / 4}, [2]int{one / 2, one / 4}}, {with(tri, [3]int{128 * one, 256*one + 1, 256 * one}, [3]int{}), 64, 64, [2]int{one / 2, one / 4}, [2]int{21845, 21845}}, {with(tri, [3]int{1, 1, 1}, [3]int{}), 64, 64, [2]int{one / 2, one / 4}, [2]int{one / 2, one / 4}},
	} {
		if got := varying.Linear(c.tri, c.px, c.py); got != c.linear || got != expectedWeights(c.tri, c.px, c.py, false) {
			t.Errorf("Linear of %v at (%d, %d) is %v, want %v", c.tri.V, c.px, c.py, got, c.linear)
		}
		if got := varying.Perspective(c.tri, c.px, c.py); got != c.perspective || got != expectedWeights(c.tri, c.px, c.py, true) {
			t.Errorf("Perspective of %v at (%d, %d) is %v, want %v", c.tri.V, c.px, c.py, got, c.perspective)
		}
	}
	for _, wrong := range wrongTriangles() {
		if linear, perspective := varying.Linear(wrong, 5, 5), varying.Perspective(wrong, 5, 5); linear != [2]int{} || perspective != [2]int{} {
			t.Errorf("the weights of %v are %v and %v", wrong.V, linear, perspective)
		}
	}
}

func TestP37_2Mix(t *testing.T) {
	for _, c := range []struct {
		w             [2]int
		a, b, c, want int
	}{
		{[2]int{one, 0}, 10, 20, 30, 10}, {[2]int{0, one}, 10, 20, 30, 20}, {[2]int{0, 0}, 10, 20, 30, 30}, {[2]int{one / 2, one / 4}, 100, 200, 400, 200}, {[2]int{one / 2, one / 2}, 100, 200, 400, 150}, {[2]int{one / 2, 0}, 1, 0, 0, 1}, {[2]int{one / 2, one / 2}, 1, 1, 0, 2}, {[2]int{one / 3, one / 3}, 5, 5, 5, 5},
		// Operands and results are saturated.
		{[2]int{one, 0}, largest, 0, 0, most}, {[2]int{0, 0}, 0, 0, smallest, -most}, {[2]int{one, 0}, most, 0, -most, 0}, {[2]int{one, one}, most, most, 0, most}, {[2]int{one, one}, -most, most, 0, 0}, {[2]int{-one, 2 * one}, 5, 7, 0, 9}, {[2]int{largest, 0}, 1, 0, 0, 8192}, {[2]int{smallest, smallest}, one, one, 0, -most}, {[2]int{3, 3}, largest, largest, largest, most}, {[2]int{one, 0}, smallest, largest, smallest, -most},
	} {
		if got := varying.Mix(c.w, c.a, c.b, c.c); got != c.want || got != expectedMix(c.w, c.a, c.b, c.c) {
			t.Errorf("Mix of %d, %d and %d with %v is %d, want %d", c.a, c.b, c.c, c.w, got, c.want)
		}
	}
	s := state(1)
	for range 20000 {
		w, a, b, c := [2]int{s.number(), s.number()}, s.number(), s.number(), s.number()
		if s.next(2) == 0 {
			w = [2]int{s.next(one + 1), s.next(one + 1)}
		}
		if got, want := varying.Mix(w, a, b, c), expectedMix(w, a, b, c); got != want {
			t.Errorf("Mix of %d, %d and %d with %v is %d, want %d", a, b, c, w, got, want)
		}
		if got, want := varying.Mix(w, a, a, a), int(sat(exact(a)).Int64()); got != want {
			t.Errorf("Mix of three times %d with %v is %d", a, w, got)
		}
	}
}

func TestP37_2Depth(t *testing.T) {
	tri := triangle(0, 0, 256, 0, 0, 256)
	for _, c := range []struct {
		z            [3]int
		px, py, want int
	}{
		{[3]int{100, 200, 400}, 0, 0, 100}, {[3]int{100, 200, 400}, 256, 0, 200}, {[3]int{100, 200, 400}, 0, 256, 400}, {[3]int{100, 200, 400}, 64, 64, 200}, {[3]int{0, one, one}, 128, 0, one / 2}, {[3]int{one, one, one}, 999, 999, one}, {[3]int{-100, 100, 100}, 0, 0, 0}, {[3]int{2 * one, one, one}, 0, 0, one}, {[3]int{-100, 300, 0}, 128, 0, 100}, {[3]int{largest, smallest, 0}, 0, 0, one}, {[3]int{largest, smallest, 0}, 256, 0, 0}, {[3]int{0, 0, 4 * one}, 0, 64, one}, {[3]int{0, 0, 4 * one}, 0, 63, one - 1024},
	} {
		// InvW does not count.
		if got := varying.Depth(with(tri, [3]int{one, 3 * one, 0}, c.z), c.px, c.py); got != c.want {
			t.Errorf("the depth at (%d, %d) with %v is %d, want %d", c.px, c.py, c.z, got, c.want)
		}
	}
	for _, wrong := range wrongTriangles() {
		if got := varying.Depth(wrong, 5, 5); got != 0 {
			t.Errorf("the depth of %v is %d", wrong.V, got)
		}
	}
}

func TestP37_2Values(t *testing.T) {
	tri := triangle(0, 0, 256, 0, 0, 256)
	flat, near := [3]int{one, one, one}, [3]int{one, 2 * one, 4 * one}
	for _, c := range []struct {
		tri    api.Triangle
		px, py int
		want   []int
	}{
		{with(tri, flat, [3]int{}), 64, 64, nil}, {with(tri, flat, [3]int{}, []int{100, 8}, []int{200, 8}, []int{400, 8}), 64, 64, []int{200, 8}}, {with(tri, near, [3]int{}, []int{100}, []int{200}, []int{400}), 64, 64, []int{275}}, {with(tri, flat, [3]int{}, []int{100}, []int{200}, []int{400}), 256, 0, []int{200}},
		// As many as vertex 0 has; missing ones are 0.
		{with(tri, flat, [3]int{}, []int{100, 100}, []int{200}, nil), 64, 64, []int{100, 50}}, {with(tri, flat, [3]int{}, []int{100}, []int{200, 5, 6}, []int{400, 7}), 64, 64, []int{200}}, {with(tri, flat, [3]int{}, nil, []int{200}, []int{400}), 64, 64, nil}, {with(tri, flat, [3]int{}, []int{largest, smallest}, []int{most, -most}, []int{largest, smallest}), 64, 64, []int{most, -most}},
	} {
		if got := varying.Values(c.tri, c.px, c.py); !slices.Equal(got, c.want) || !slices.Equal(got, expectedValues(c.tri, c.px, c.py)) {
			t.Errorf("the values of %v at (%d, %d) are %v, want %v", c.tri.V, c.px, c.py, got, c.want)
		}
	}
	for _, wrong := range wrongTriangles() {
		dx, dy := varying.Derivatives(wrong, 5, 5)
		if got := varying.Values(wrong, 5, 5); got != nil || len(dx) > 0 || len(dy) > 0 || len(varying.Inputs(wrong, 5, 5)) > 0 {
			t.Errorf("the values of %v are %v, %v and %v", wrong.V, got, dx, dy)
		}
	}
}

// TestP37_4Arbitrary compares all functions with exact numbers, for arbitrary triangles and points.
func TestP37_4Arbitrary(t *testing.T) {
	s := state(2)
	for range 4000 {
		tri := s.triangle()
		text := fmt.Sprint(tri)
		for _, point := range [][2]int{{s.next(end), s.next(end)}, {s.number(), s.number()}, {tri.V[0].X, tri.V[0].Y}, {(tri.V[0].X + tri.V[1].X) / 2, (tri.V[0].Y + tri.V[1].Y) / 2}, {(tri.V[0].X + tri.V[1].X + tri.V[2].X) / 3, (tri.V[0].Y + tri.V[1].Y + tri.V[2].Y) / 3}} {
			px, py := point[0], point[1]
			linear, perspective := expectedWeights(tri, px, py, false), expectedWeights(tri, px, py, true)
			if got, other := varying.Linear(tri, px, py), varying.Perspective(tri, px, py); got != linear || other != perspective {
				t.Fatalf("the weights of %v at (%d, %d) are %v and %v, want %v and %v", tri.V, px, py, got, other, linear, perspective)
			}
			if got, want := varying.Values(tri, px, py), expectedValues(tri, px, py); !slices.Equal(got, want) {
				t.Fatalf("the values of %v at (%d, %d) are %v, want %v", tri.V, px, py, got, want)
			}
			z := min(max(expectedMix(linear, tri.V[0].Z, tri.V[1].Z, tri.V[2].Z), 0), one)
			if got := varying.Depth(tri, px, py); got != z {
				t.Fatalf("the depth of %v at (%d, %d) is %d, want %d", tri.V, px, py, got, z)
			}
		}
		x, y := s.next(70)-3, s.next(70)-3
		if s.next(8) == 0 {
			x, y = s.number(), s.number()
		}
		want := expectedInputs(tri, x, y)
		if got := varying.Inputs(tri, x, y); !slices.Equal(got, want) {
			t.Fatalf("the inputs of %v in the pixel (%d, %d) are %v, want %v", tri.V, x, y, got, want)
		}
		n := len(want) / 3
		if dx, dy := varying.Derivatives(tri, x, y); !slices.Equal(dx, want[n:2*n]) || !slices.Equal(dy, want[2*n:]) {
			t.Fatalf("the derivatives of %v in the pixel (%d, %d) are %v and %v, want %v", tri.V, x, y, dx, dy, want[n:])
		}
		if fmt.Sprint(tri) != text {
			t.Fatal("the triangle was changed")
		}
	}
}

func TestP37_3Derivatives(t *testing.T) {
	// A plane that rises by 256 in each pixel to the right, and falls by 512 in each row, as far as weights are exact.
	tri := with(triangle(0, 0, end, 0, 0, end), [3]int{one, one, one}, [3]int{}, []int{0, 7}, []int{end, 7}, []int{-2 * end, 7})
	for _, c := range []struct {
		x, y int
		want []int
	}{
		{0, 0, []int{128 - 256, 7, 256, 0, -512, 0}}, {5, 3, []int{5*256 + 128 - 2*(3*256+128), 7, 256, 0, -512, 0}}, {smallest, -1, []int{-128, 7, 256, 0, -512, 0}},
	} {
		if got := varying.Inputs(tri, c.x, c.y); !slices.Equal(got, c.want) {
			t.Errorf("the inputs of the pixel (%d, %d) are %v, want %v", c.x, c.y, got, c.want)
		}
	}
	// The derivatives at the last pixels are those of the pixels before; beyond the image, inputs are those at its border.
	for _, wide := range []api.Triangle{tri, with(tri, [3]int{one, 5 * one, 9 * one}, [3]int{}, []int{one}, []int{3 * one}, []int{-one})} {
		for _, pair := range [][4]int{{63, 5, 62, 5}, {5, 63, 5, 62}, {63, 63, 62, 62}, {64, 64, 62, 62}, {largest, 7, 62, 7}, {7, largest, 7, 62}, {-1, 7, 0, 7}, {7, smallest, 7, 0}, {1 << 32, 1<<32 + 1, 62, 62}} {
			oneX, oneY := varying.Derivatives(wide, pair[0], pair[1])
			twoX, twoY := varying.Derivatives(wide, pair[2], pair[3])
			if !slices.Equal(oneX, twoX) || !slices.Equal(oneY, twoY) {
				t.Errorf("the derivatives of the pixel (%d, %d) are %v and %v, want %v and %v", pair[0], pair[1], oneX, oneY, twoX, twoY)
			}
		}
		for _, pair := range [][4]int{{64, 5, 63, 5}, {5, 64, 5, 63}, {largest, largest, 63, 63}, {-1, -1, 0, 0}, {smallest, 5, 0, 5}, {1<<32 + 9, 5, 63, 5}} {
			if one, two := varying.Inputs(wide, pair[0], pair[1]), varying.Inputs(wide, pair[2], pair[3]); !slices.Equal(one, two) || !slices.Equal(one, expectedInputs(wide, pair[0], pair[1])) {
				t.Errorf("the inputs of the pixel (%d, %d) are %v, want %v", pair[0], pair[1], one, two)
			}
		}
		if slices.Equal(varying.Inputs(wide, 63, 5), varying.Inputs(wide, 62, 5)) || slices.Equal(varying.Inputs(wide, 5, 63), varying.Inputs(wide, 5, 62)) {
			t.Error("the last pixels have the inputs of those before")
		}
	}
	// A difference that is saturated.
	steep := with(triangle(128, 128, 384, 128, 128, 384), [3]int{one, one, one}, [3]int{}, []int{-most}, []int{most}, []int{5 - most})
	if dx, dy := varying.Derivatives(steep, 0, 0); !slices.Equal(dx, expectedInputs(steep, 0, 0)[1:2]) || !slices.Equal(dy, expectedInputs(steep, 0, 0)[2:]) {
		t.Errorf("the derivatives of a steep triangle are %v and %v", dx, dy)
	}
}

// TestP37_4Vertices has the values at the vertices of triangles, and values that are equal at all vertices.
func TestP37_4Vertices(t *testing.T) {
	s := state(3)
	for range 3000 {
		tri := s.triangle()
		for i := range tri.V {
			tri.V[i].Z = s.next(one + 1)
		}
		for i, v := range tri.V {
			want := [][2]int{{one, 0}, {0, one}, {0, 0}}[i]
			if got := varying.Linear(tri, v.X, v.Y); got != want {
				t.Errorf("at vertex %d of %v the weights are %v", i, tri.V, got)
			}
			if got := varying.Depth(tri, v.X, v.Y); got != v.Z {
				t.Errorf("at vertex %d of %v the depth is %d", i, tri.V, got)
			}
		}
		x := s.number()
		for i := range tri.V {
			tri.V[i].Varyings = []int{x, x, x}
		}
		px, py := s.number(), s.number()
		want := int(sat(exact(x)).Int64())
		if got := varying.Values(tri, px, py); !slices.Equal(got, []int{want, want, want}) {
			t.Errorf("the value %d becomes %v", x, got)
		}
		if got := varying.Inputs(tri, px, py); !slices.Equal(got, []int{want, want, want, 0, 0, 0, 0, 0, 0}) {
			t.Errorf("the value %d becomes the inputs %v", x, got)
		}
	}
}

// TestP37_4Range shows that values lie between those of the vertices, up to rounding.
func TestP37_4Range(t *testing.T) {
	s := state(4)
	for range 5000 {
		tri := s.triangle()
		var list []int
		for i := range tri.V {
			x := s.next(1<<28) - 1<<27
			tri.V[i].Varyings = []int{x}
			list = append(list, x)
		}
		// Each weight is rounded to a unit of 1/One.
		slack := (slices.Max(list)-slices.Min(list))/one + 2
		got := varying.Values(tri, s.next(end), s.next(end))[0]
		if got < slices.Min(list)-slack || got > slices.Max(list)+slack {
			t.Errorf("between %v there is %d", list, got)
		}
	}
}

// TestP37_3Memory changes results, which share no memory.
func TestP37_3Memory(t *testing.T) {
	tri := with(triangle(0, 0, 256, 0, 0, 256), [3]int{one, one, one}, [3]int{}, []int{5, 6}, []int{5, 6}, []int{7, 9})
	text := fmt.Sprint(tri)
	results := func() string {
		dx, dy := varying.Derivatives(tri, 0, 0)
		values, inputs := varying.Values(tri, 5, 5), varying.Inputs(tri, 0, 0)
		shown := fmt.Sprint(dx, dy, values, inputs)
		for _, list := range [][]int{dx, dy, values, inputs} {
			list = list[:cap(list)]
			for i := range list {
				list[i] = -99
			}
		}
		return shown
	}
	if one, two := results(), results(); one != two || fmt.Sprint(tri) != text {
		t.Errorf("results share memory: %s and %s", one, two)
	}
}
