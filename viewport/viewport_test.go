package viewport_test

import (
	"fmt"
	"math"
	"math/big"
	"slices"
	"testing"

	"frustum/api"
	"frustum/viewport"
)

const (
	one      = api.One
	most     = api.MaxValue
	largest  = math.MaxInt
	smallest = math.MinInt
)

// port returns a viewport with all depths.
func port(x, y, width, height int) api.Viewport {
	return api.Viewport{X: x, Y: y, Width: width, Height: height, MaxDepth: one}
}

// vertex returns a vertex with a position and varyings.
func vertex(x, y, z, w int, varyings ...int) api.Vertex {
	return api.Vertex{Position: api.Vec4{X: x, Y: y, Z: z, W: w}, Varyings: varyings}
}

// state makes arbitrary numbers.
type state uint64

func (s *state) next(beyond int) int {
	*s = *s*6364136223846793005 + 1442695040888963407
	return int(*s>>33) % beyond
}

// number returns a number of any magnitude, or one of the numbers at which results change.
func (s *state) number() int {
	switch s.next(4) {
	case 0:
		return numbers()[s.next(len(numbers()))]
	case 1:
		return s.next(6*one) - 3*one
	}
	*s = *s*6364136223846793005 + 1442695040888963407
	return int(*s) >> (*s >> 17 % 64)
}

// numbers returns numbers at both ends of the ranges of the chapter, and beyond them.
func numbers() []int {
	return []int{0, 1, -1, 2, -2, one / 2, one - 1, one, one + 1, -one, -one - 1, 1 - one, 2 * one, 255, 256, 257, 63, 64, 65, -64, -256, 16384, most - 1, most, most + 1, -most, -most - 1, 1 << 31, 1 << 32, 1<<32 + 1, -1 << 32, 1 << 62, -1 << 62, largest - 64, largest - 1, largest, smallest, smallest + 1, smallest + 64}
}

// exact numbers and their operations, as chapter 1 defines them.
func exact(x int) *big.Int { return big.NewInt(int64(x)) }

func limit(x *big.Int, low, high int) *big.Int {
	switch {
	case x.Cmp(exact(low)) < 0:
		return exact(low)
	case x.Cmp(exact(high)) > 0:
		return exact(high)
	}
	return x
}

func sat(x *big.Int) *big.Int     { return limit(x, -most, most) }
func sum(a, b *big.Int) *big.Int  { return new(big.Int).Add(a, b) }
func diff(a, b *big.Int) *big.Int { return new(big.Int).Sub(a, b) }
func times(a, b *big.Int) *big.Int {
	return new(big.Int).Mul(a, b)
}

// rounded returns n/d for a positive d, rounded to the nearest integer, halves away from zero.
func rounded(n, d *big.Int) *big.Int {
	twice := new(big.Int).Abs(n)
	twice.Lsh(twice, 1).Add(twice, d)
	twice.Quo(twice, new(big.Int).Lsh(d, 1))
	if n.Sign() < 0 {
		twice.Neg(twice)
	}
	return twice
}

// overW returns n/w.
func overW(n, w int) *big.Int {
	return sat(rounded(times(sat(exact(n)), exact(one)), sat(limit(exact(w), 256, largest))))
}

// expectedCoordinate returns what Coordinate must return.
func expectedCoordinate(low, size, n, w int) int {
	l, s := limit(exact(low), 0, 64), limit(exact(size), 0, 64)
	d := limit(overW(n, w), -one, one)
	product := times(times(sum(d, exact(one)), s), exact(256))
	return int(sum(times(l, exact(256)), rounded(product, exact(2*one))).Int64())
}

// expectedDepth returns what Depth must return.
func expectedDepth(v api.Viewport, z, w int) int {
	d := limit(overW(z, w), 0, one)
	step := sat(rounded(times(d, sat(diff(exact(v.MaxDepth), exact(v.MinDepth)))), exact(one)))
	return int(sat(sum(sat(exact(v.MinDepth)), step)).Int64())
}

// expectedValid reports whether a viewport is valid.
func expectedValid(v api.Viewport) bool {
	inside := func(low, size int) bool {
		return low >= 0 && size >= 1 && sum(exact(low), exact(size)).Cmp(exact(64)) <= 0
	}
	return inside(v.X, v.Width) && inside(v.Y, v.Height) && v.MinDepth >= 0 && v.MaxDepth >= v.MinDepth && v.MaxDepth <= one
}

// expectedContains reports whether a pixel lies in a viewport.
func expectedContains(v api.Viewport, px, py int) bool {
	inside := func(low, size, x int) bool {
		return low <= x && exact(x).Cmp(sum(exact(low), exact(size))) < 0
	}
	return inside(v.X, v.Width, px) && inside(v.Y, v.Height, py)
}

// expectedTransform returns a vertex in screen space.
func expectedTransform(v api.Viewport, x api.Vertex) api.ScreenVertex {
	if !expectedValid(v) {
		return api.ScreenVertex{}
	}
	p := x.Position
	down := int(new(big.Int).Neg(sat(exact(p.Y))).Int64())
	r := api.ScreenVertex{X: expectedCoordinate(v.X, v.Width, p.X, p.W), Y: expectedCoordinate(v.Y, v.Height, down, p.W), Z: expectedDepth(v, p.Z, p.W), InvW: int(overW(one, p.W).Int64())}
	for _, y := range x.Varyings {
		r.Varyings = append(r.Varyings, int(sat(exact(y)).Int64()))
	}
	return r
}

func same(a, b api.ScreenVertex) bool {
	return fmt.Sprint(a) == fmt.Sprint(b)
}

func TestP32_1Valid(t *testing.T) {
	for _, c := range []struct {
		v    api.Viewport
		want bool
	}{
		{api.Viewport{}, false}, {port(0, 0, 64, 64), true}, {port(0, 0, 1, 1), true}, {port(63, 63, 1, 1), true}, {port(64, 0, 1, 1), false}, {port(64, 0, 0, 1), false}, {port(0, 64, 1, 1), false}, {port(63, 0, 2, 1), false}, {port(0, 63, 1, 2), false}, {port(1, 0, 64, 1), false}, {port(0, 1, 1, 64), false}, {port(0, 0, 65, 1), false}, {port(0, 0, 1, 65), false}, {port(0, 0, 0, 1), false}, {port(0, 0, 1, 0), false}, {port(0, 0, -1, 1), false}, {port(-1, 0, 1, 1), false}, {port(-1, 0, 65, 1), false}, {port(0, -1, 1, 1), false}, {port(0, -1, 1, 65), false},
		{port(largest, 0, 1, 1), false}, {port(0, largest, 1, 1), false}, {port(1, 0, largest, 1), false}, {port(largest, 0, largest, 1), false}, {port(0, largest, 1, largest), false}, {port(largest-62, 0, 1, 1), false}, {port(smallest, 0, 64, 1), false}, {port(smallest, 0, smallest, 1), false}, {port(0, 0, smallest, 1), false}, {port(0, 1<<32, 1, 1), false},
		{api.Viewport{Width: 1, Height: 1}, true}, {api.Viewport{Width: 1, Height: 1, MinDepth: one, MaxDepth: one}, true}, {api.Viewport{Width: 1, Height: 1, MinDepth: -1, MaxDepth: one}, false}, {api.Viewport{Width: 1, Height: 1, MinDepth: 0, MaxDepth: one + 1}, false}, {api.Viewport{Width: 1, Height: 1, MinDepth: 5, MaxDepth: 5}, true}, {api.Viewport{Width: 1, Height: 1, MinDepth: 5, MaxDepth: 4}, false}, {api.Viewport{Width: 1, Height: 1, MinDepth: -5, MaxDepth: -5}, false}, {api.Viewport{Width: 1, Height: 1, MinDepth: one + 1, MaxDepth: one + 1}, false}, {api.Viewport{Width: 1, Height: 1, MinDepth: smallest, MaxDepth: largest}, false}, {api.Viewport{Width: 1, Height: 1, MinDepth: largest, MaxDepth: smallest}, false},
	} {
		if got := viewport.Valid(c.v); got != c.want || got != expectedValid(c.v) {
			t.Errorf("Valid of %+v is %t", c.v, got)
		}
	}
	// All sides next to the limits.
	list := []int{smallest, -1 << 32, -65, -64, -1, 0, 1, 2, 31, 32, 33, 62, 63, 64, 65, 1 << 32, largest - 64, largest}
	for _, low := range list {
		for _, size := range list {
			for _, v := range []api.Viewport{port(low, 3, size, 4), port(3, low, 4, size)} {
				if got, want := viewport.Valid(v), expectedValid(v); got != want {
					t.Errorf("Valid of %+v is %t", v, got)
				}
			}
		}
	}
}

func TestP32_1Contains(t *testing.T) {
	for _, c := range []struct {
		v      api.Viewport
		px, py int
		want   bool
	}{
		{port(3, 5, 7, 9), 3, 5, true}, {port(3, 5, 7, 9), 9, 13, true}, {port(3, 5, 7, 9), 10, 13, false}, {port(3, 5, 7, 9), 9, 14, false}, {port(3, 5, 7, 9), 2, 5, false}, {port(3, 5, 7, 9), 3, 4, false}, {port(0, 0, 64, 64), 63, 63, true}, {port(0, 0, 64, 64), 64, 0, false}, {port(0, 0, 64, 64), -1, 0, false}, {port(0, 0, 1, 1), 0, 0, true}, {api.Viewport{}, 0, 0, false}, {port(0, 0, 64, 64), smallest, 0, false}, {port(0, 0, 64, 64), 0, largest, false},
		// The rule is that of any rectangle.
		{port(-5, -5, 10, 10), -1, -5, true}, {port(-5, -5, 10, 10), 5, 0, false}, {port(0, 0, -1, 5), 0, 0, false}, {port(0, 0, -1, 5), -1, 0, false}, {port(largest, 0, 1, 1), largest, 0, true}, {port(largest, 0, 5, 1), largest, 0, true}, {port(largest, 0, 5, 1), smallest, 0, false}, {port(smallest, 0, largest, 1), -2, 0, true}, {port(smallest, 0, largest, 1), -1, 0, false}, {port(1, 0, largest, 1), largest, 0, true}, {port(1, 0, largest, 1), 0, 0, false}, {port(smallest, smallest, smallest, smallest), smallest, smallest, false}, {port(0, smallest, 1, 1), 0, smallest, true},
	} {
		if got := viewport.Contains(c.v, c.px, c.py); got != c.want || got != expectedContains(c.v, c.px, c.py) {
			t.Errorf("Contains of %+v and (%d, %d) is %t", c.v, c.px, c.py, got)
		}
	}
	for _, low := range numbers() {
		for _, size := range numbers() {
			for _, x := range append(numbers(), low-1, low, low+1, low+size-1, low+size) {
				for _, c := range []struct {
					v      api.Viewport
					px, py int
				}{{port(low, 0, size, 1), x, 0}, {port(0, low, 1, size), 0, x}} {
					if got, want := viewport.Contains(c.v, c.px, c.py), expectedContains(c.v, c.px, c.py); got != want {
						t.Errorf("Contains of %+v and (%d, %d) is %t", c.v, c.px, c.py, got)
					}
				}
			}
		}
	}
}

func TestP32_1Equal(t *testing.T) {
	v := api.ScreenVertex{X: 1, Y: 2, Z: 3, InvW: 4, Varyings: []int{5, 6}}
	if !viewport.Equal(v, api.ScreenVertex{X: 1, Y: 2, Z: 3, InvW: 4, Varyings: []int{5, 6}}) || !viewport.Equal(api.ScreenVertex{}, api.ScreenVertex{Varyings: []int{}}) {
		t.Error("equal vertices are different")
	}
	for _, change := range []func(v *api.ScreenVertex){
		func(v *api.ScreenVertex) { v.X = 0 }, func(v *api.ScreenVertex) { v.Y = largest }, func(v *api.ScreenVertex) { v.Z = -3 }, func(v *api.ScreenVertex) { v.InvW = 5 }, func(v *api.ScreenVertex) { v.Varyings = nil }, func(v *api.ScreenVertex) { v.Varyings = []int{5} }, func(v *api.ScreenVertex) { v.Varyings = []int{5, 7} }, func(v *api.ScreenVertex) { v.Varyings = []int{0, 6} }, func(v *api.ScreenVertex) { v.Varyings = []int{5, 6, 0} },
	} {
		w := v
		change(&w)
		if viewport.Equal(v, w) || viewport.Equal(w, v) {
			t.Errorf("%v and %v are equal", v, w)
		}
	}
}

func TestP32_2Coordinate(t *testing.T) {
	for _, c := range []struct{ low, size, n, w, want int }{
		{0, 64, 0, one, 8192}, {0, 64, -one, one, 0}, {0, 64, one, one, 16384}, {3, 5, 0, one, 1408}, {3, 5, one, one, 2048}, {3, 5, -one, one, 768}, {0, 64, 2 * one, one, 16384}, {0, 64, -2 * one, one, 0}, {0, 1, 0, one, 128}, {0, 64, one, 2 * one, 12288}, {0, 64, 1, one, 8192}, {0, 64, 4, one, 8193}, {0, 64, 3, one, 8192}, {0, 64, -4, one, 8192}, {0, 64, -5, one, 8191},
		// w is at least MinW; low and size are limited.
		{0, 64, 128, 0, 12288}, {0, 64, 128, -one, 12288}, {0, 64, 128, smallest, 12288}, {0, 64, 128, 256, 12288}, {0, 64, 128, 257, 12272}, {0, 64, 128, 255, 12288}, {-1, 64, 0, one, 8192}, {65, 64, 0, one, 24576}, {64, 64, one, one, 32768}, {0, 65, one, one, 16384}, {0, 0, one, one, 0}, {5, -1, one, one, 1280}, {largest, largest, largest, largest, 32768}, {smallest, smallest, smallest, smallest, 0}, {0, 64, largest, most, 16384}, {0, 64, smallest, largest, 0}, {0, 64, most / 2, largest, 12288},
	} {
		if got := viewport.Coordinate(c.low, c.size, c.n, c.w); got != c.want || got != expectedCoordinate(c.low, c.size, c.n, c.w) {
			t.Errorf("Coordinate(%d, %d, %d, %d) is %d, want %d", c.low, c.size, c.n, c.w, got, c.want)
		}
	}
	s := state(1)
	for range 30000 {
		low, size, n, w := s.number(), s.number(), s.number(), s.number()
		if s.next(2) == 0 {
			low, size = s.next(67)-1, s.next(67)-1
		}
		if got, want := viewport.Coordinate(low, size, n, w), expectedCoordinate(low, size, n, w); got != want {
			t.Errorf("Coordinate(%d, %d, %d, %d) is %d, want %d", low, size, n, w, got, want)
		}
	}
}

func TestP32_2Depth(t *testing.T) {
	for _, c := range []struct{ low, high, z, w, want int }{
		{0, one, 0, one, 0}, {0, one, one, one, one}, {0, one, one / 2, one, one / 2}, {0, one, one, 2 * one, one / 2}, {0, one, -1, one, 0}, {0, one, 2 * one, one, one}, {one / 4, one / 2, 0, one, one / 4}, {one / 4, one / 2, one, one, one / 2}, {one / 4, one / 2, one / 2, one, 3 * one / 8}, {5, 5, one, one, 5}, {0, 1, one / 2, one, 1}, {0, 1, one/2 - 1, one, 0}, {0, one, 128, 0, one / 2}, {0, one, 128, smallest, one / 2}, {0, one, largest, 1, one}, {0, one, smallest, 1, 0},
		// Ranges that no valid viewport has.
		{one, 0, one / 2, one, one / 2}, {0, largest, one, one, most}, {smallest, largest, one, one, 0}, {largest, smallest, one, one, 0}, {smallest, smallest + 5, one, one, 5 - most}, {largest - 5, largest, one / 5, one, most}, {1 << 40, 1<<40 - 7, one, one, most - 7}, {-1, 1, one, one, 1}, {smallest, 0, one, one, 0}, {0, smallest, one, one, -most}, {0, smallest, 0, one, 0},
	} {
		v := api.Viewport{MinDepth: c.low, MaxDepth: c.high}
		if got := viewport.Depth(v, c.z, c.w); got != c.want || got != expectedDepth(v, c.z, c.w) {
			t.Errorf("the depth of %d and %d between %d and %d is %d, want %d", c.z, c.w, c.low, c.high, got, c.want)
		}
	}
	s := state(2)
	for range 30000 {
		v := api.Viewport{MinDepth: s.number(), MaxDepth: s.number()}
		if s.next(2) == 0 {
			v = api.Viewport{MinDepth: s.next(one), MaxDepth: s.next(one + 1)}
		}
		z, w := s.number(), s.number()
		if got, want := viewport.Depth(v, z, w), expectedDepth(v, z, w); got != want {
			t.Errorf("the depth of %d and %d between %d and %d is %d, want %d", z, w, v.MinDepth, v.MaxDepth, got, want)
		}
	}
}

func TestP32_3Transform(t *testing.T) {
	all := port(0, 0, 64, 64)
	for _, c := range []struct {
		v    api.Viewport
		x    api.Vertex
		want api.ScreenVertex
	}{
		{all, vertex(0, 0, 0, one), api.ScreenVertex{X: 8192, Y: 8192, InvW: one}}, {all, vertex(one, one, one, one, 7), api.ScreenVertex{X: 16384, Z: one, InvW: one, Varyings: []int{7}}}, {all, vertex(-one, -one, 0, one), api.ScreenVertex{Y: 16384, InvW: one}}, {port(8, 16, 4, 2), vertex(one, -one, one, 2*one, 1, 2), api.ScreenVertex{X: 2816, Y: 4480, Z: one / 2, InvW: one / 2, Varyings: []int{1, 2}}},
		// w at the near plane, below it, and as great as possible.
		{all, vertex(0, 0, 0, 256), api.ScreenVertex{X: 8192, Y: 8192, InvW: 256 * one}}, {all, vertex(0, 0, 0, 255), api.ScreenVertex{X: 8192, Y: 8192, InvW: 256 * one}}, {all, vertex(0, 0, 0, 0), api.ScreenVertex{X: 8192, Y: 8192, InvW: 256 * one}}, {all, vertex(0, 0, 0, smallest), api.ScreenVertex{X: 8192, Y: 8192, InvW: 256 * one}}, {all, vertex(0, 0, 0, most), api.ScreenVertex{X: 8192, Y: 8192, InvW: 8}}, {all, vertex(0, 0, 0, largest), api.ScreenVertex{X: 8192, Y: 8192, InvW: 8}},
		{all, vertex(smallest, smallest, smallest, smallest, smallest), api.ScreenVertex{Y: 16384, InvW: 256 * one, Varyings: []int{-most}}}, {all, vertex(largest, largest, largest, largest, largest, most+1, -most-1), api.ScreenVertex{X: 16384, Z: one, InvW: 8, Varyings: []int{most, most, -most}}}, {all, vertex(0, smallest, 0, one), api.ScreenVertex{X: 8192, Y: 16384, InvW: one}},
		// Viewports that are not valid.
		{api.Viewport{}, vertex(0, 0, 0, one, 5), api.ScreenVertex{}}, {port(0, 0, 65, 64), vertex(0, 0, 0, one, 5), api.ScreenVertex{}}, {port(-1, 0, 64, 64), vertex(0, 0, 0, one, 5), api.ScreenVertex{}}, {api.Viewport{Width: 64, Height: 64, MinDepth: 1}, vertex(0, 0, 0, one, 5), api.ScreenVertex{}}, {api.Viewport{Width: 64, Height: 64, MaxDepth: one + 1}, vertex(0, 0, 0, one, 5), api.ScreenVertex{}},
	} {
		before := slices.Clone(c.x.Varyings)
		if got := viewport.Transform(c.v, c.x); !same(got, c.want) || !same(got, expectedTransform(c.v, c.x)) {
			t.Errorf("%v in %+v becomes %v, want %v", c.x, c.v, got, c.want)
		}
		if !slices.Equal(before, c.x.Varyings) {
			t.Error("Transform changed its argument")
		}
	}
}

// TestP32_4Arbitrary compares Transform with exact numbers, and its results with the ranges of P32.4.
func TestP32_4Arbitrary(t *testing.T) {
	s := state(3)
	inner := 0
	for range 20000 {
		v := port(s.next(64), s.next(64), 0, 0)
		v.Width, v.Height, v.MinDepth = 1+s.next(64-v.X), 1+s.next(64-v.Y), s.next(one)
		v.MaxDepth = v.MinDepth + s.next(one+1-v.MinDepth)
		if !viewport.Valid(v) {
			t.Fatalf("%+v is not valid", v)
		}
		x := vertex(s.number(), s.number(), s.number(), s.number())
		if s.next(2) == 0 {
			w := 1 + s.next(9*one)
			x = vertex(s.next(3*w)-w, s.next(3*w)-w, s.next(2*w), w)
		}
		for range s.next(4) {
			x.Varyings = append(x.Varyings, s.number())
		}
		r := viewport.Transform(v, x)
		if want := expectedTransform(v, x); !same(r, want) {
			t.Fatalf("%v in %+v becomes %v, want %v", x, v, r, want)
		}
		if r.X < v.X*256 || r.X > (v.X+v.Width)*256 || r.Y < v.Y*256 || r.Y > (v.Y+v.Height)*256 || r.Z < v.MinDepth || r.Z > v.MaxDepth || r.InvW < 0 || r.InvW > 256*one {
			t.Errorf("%v lies outside of %+v", r, v)
		}
		if r.X > v.X*256 && r.X < (v.X+v.Width)*256 && r.Z > v.MinDepth && r.Z < v.MaxDepth {
			inner++
		}
	}
	if inner < 2000 {
		t.Errorf("only %d vertices lie between the ends of the ranges", inner)
	}
}

// TestP32_3Memory changes results, which share no memory.
func TestP32_3Memory(t *testing.T) {
	x := vertex(0, 0, 0, one, 5, 6)
	r := viewport.Transform(port(0, 0, 64, 64), x)
	clear(r.Varyings[:cap(r.Varyings)])
	if again := viewport.Transform(port(0, 0, 64, 64), x); !slices.Equal(again.Varyings, []int{5, 6}) {
		t.Errorf("the results of Transform share memory: %v", again)
	}
}
