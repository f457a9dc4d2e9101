package cull_test

import (
	"fmt"
	"math"
	"math/big"
	"slices"
	"testing"

	"frustum/api"
	"frustum/cull"
)

const (
	end      = api.MaxScreen
	largest  = math.MaxInt
	smallest = math.MinInt
)

// triangle returns a triangle whose vertices have these coordinates, and fields that are all different.
func triangle(x0, y0, x1, y1, x2, y2 int) [3]api.ScreenVertex {
	return [3]api.ScreenVertex{{X: x0, Y: y0, Z: 1, InvW: 2, Varyings: []int{3, 4}}, {X: x1, Y: y1, Z: 5, InvW: 6, Varyings: []int{7, 8}}, {X: x2, Y: y2, Z: 9, InvW: 10, Varyings: []int{11, 12}}}
}

// exchanged returns a triangle with two vertices exchanged.
func exchanged(t [3]api.ScreenVertex, i, k int) [3]api.ScreenVertex {
	t[i], t[k] = t[k], t[i]
	return t
}

// state makes arbitrary triangles.
type state uint64

func (s *state) next(beyond int) int {
	*s = *s*6364136223846793005 + 1442695040888963407
	return int(*s>>33) % beyond
}

// coordinate returns a coordinate that is mostly in range.
func (s *state) coordinate() int {
	switch s.next(12) {
	case 0:
		return []int{0, 1, end - 1, end}[s.next(4)]
	case 1:
		return []int{-1, end + 1, smallest, largest, 1 << 32, -1 << 32, 1<<32 + 5, 1 << 62}[s.next(8)]
	case 2, 3:
		return s.next(4) * 256
	}
	return s.next(end + 1)
}

func (s *state) triangle() [3]api.ScreenVertex {
	return triangle(s.coordinate(), s.coordinate(), s.coordinate(), s.coordinate(), s.coordinate(), s.coordinate())
}

// expectedArea returns the area as the sum of the products of neighboring coordinates, in exact numbers.
func expectedArea(t [3]api.ScreenVertex) int {
	for _, v := range t {
		if min(v.X, v.Y) < 0 || max(v.X, v.Y) > 16384 {
			return 0
		}
	}
	sum := new(big.Int)
	for i := range 3 {
		a, b := t[i], t[(i+1)%3]
		sum.Add(sum, new(big.Int).Mul(big.NewInt(int64(a.X)), big.NewInt(int64(b.Y))))
		sum.Sub(sum, new(big.Int).Mul(big.NewInt(int64(a.Y)), big.NewInt(int64(b.X))))
	}
	return int(sum.Int64())
}

func TestP33_1Area(t *testing.T) {
	for _, c := range []struct {
		tri     [3]api.ScreenVertex
		area    int
		inRange bool
	}{
		{triangle(0, 0, 256, 0, 0, 256), 65536, true}, {triangle(0, 0, 0, 256, 256, 0), -65536, true}, {triangle(0, 0, 0, 0, 0, 0), 0, true}, {triangle(0, 0, 1, 0, 0, 1), 1, true}, {triangle(5, 5, 5, 5, 9, 1), 0, true}, {triangle(1, 1, 3, 3, 7, 7), 0, true}, {triangle(3, 4, 10, 6, 5, 20), 108, true},
		{triangle(0, 0, end, 0, 0, end), end * end, true}, {triangle(end, end, 0, end, end, 0), end * end, true}, {triangle(0, 0, 0, end, end, end), -end * end, true}, {triangle(0, 0, end, 0, end, end), end * end, true},
		{triangle(-1, 0, 256, 0, 0, 256), 0, false}, {triangle(0, -1, 256, 0, 0, 256), 0, false}, {triangle(0, 0, end+1, 0, 0, 256), 0, false}, {triangle(0, 0, 256, -1, 0, 256), 0, false}, {triangle(0, 0, 256, 0, -1, 256), 0, false}, {triangle(0, 0, 256, 0, 0, end+1), 0, false}, {triangle(0, end+1, 256, 0, 0, 0), 0, false}, {triangle(end+1, 0, 256, 0, 0, 0), 0, false}, {triangle(0, 0, 0, end+1, 9, 0), 0, false}, {triangle(0, 0, 0, 1, end+1, 0), 0, false}, {triangle(0, 0, -1, 5, 7, 9), 0, false}, {triangle(0, 0, 5, 0, 7, -1), 0, false},
		{triangle(largest, 0, 0, largest, 0, 0), 0, false}, {triangle(smallest, smallest, 0, smallest, smallest, 0), 0, false}, {triangle(1<<32, 0, 256, 0, 0, 256), 0, false}, {triangle(0, 0, 1<<32+256, 0, 0, 256), 0, false},
	} {
		if got := cull.Area(c.tri); got != c.area || expectedArea(c.tri) != c.area {
			t.Errorf("the area of %v is %d, want %d", c.tri, got, c.area)
		}
		if got := cull.InRange(c.tri); got != c.inRange {
			t.Errorf("InRange of %v is %t", c.tri, got)
		}
	}
	// Other fields do not count.
	tri := triangle(0, 0, 256, 0, 0, 256)
	tri[1].Z, tri[2].InvW, tri[0].Varyings = smallest, largest, nil
	if !cull.InRange(tri) || cull.Area(tri) != 65536 {
		t.Errorf("the area of %v is %d", tri, cull.Area(tri))
	}
}

func TestP33_2Keep(t *testing.T) {
	modes := []api.CullMode{api.CullNone, api.CullFront, api.CullBack, 0, 4, -1, 1 << 32, 1<<32 + 1, largest, smallest}
	for _, size := range []int{1, 2, 65536, end * end, 1 << 40, largest} {
		for _, area := range []int{size, -size, 0, smallest} {
			for _, clockwise := range []bool{false, true} {
				front := clockwise && area > 0 || !clockwise && area < 0
				if got := cull.IsFront(area, clockwise); got != front {
					t.Errorf("IsFront(%d, %t) is %t", area, clockwise, got)
				}
				for i, mode := range modes {
					keep := area != 0 && (i == 0 || i == 1 && !front || i == 2 && front)
					if got := cull.Keep(area, mode, clockwise); got != keep {
						t.Errorf("Keep(%d, %d, %t) is %t", area, mode, clockwise, got)
					}
				}
			}
		}
	}
}

func TestP33_3Orient(t *testing.T) {
	positive, negative := triangle(0, 0, 256, 0, 0, 256), triangle(0, 0, 0, 256, 256, 0)
	for _, c := range []struct{ tri, want [3]api.ScreenVertex }{
		{positive, positive}, {negative, exchanged(negative, 1, 2)}, {triangle(1, 1, 3, 3, 7, 7), triangle(1, 1, 3, 3, 7, 7)}, {[3]api.ScreenVertex{}, [3]api.ScreenVertex{}},
		// A triangle that is not in range has the area 0.
		{triangle(-1, 0, 0, 256, 256, 0), triangle(-1, 0, 0, 256, 256, 0)}, {triangle(smallest, largest, 0, 256, 256, 0), triangle(smallest, largest, 0, 256, 256, 0)},
	} {
		text := fmt.Sprint(c.tri)
		got := cull.Orient(c.tri)
		if fmt.Sprint(got) != fmt.Sprint(c.want) {
			t.Errorf("the triangle %v becomes %v, want %v", c.tri, got, c.want)
		}
		for i := range got {
			for k := range got[i].Varyings {
				got[i].Varyings[k] = -99
			}
		}
		if fmt.Sprint(c.tri) != text {
			t.Error("Orient changed its argument, or shares memory with it")
		}
	}
}

func TestP33_3Setup(t *testing.T) {
	clockwise, counter, flat := triangle(0, 0, 256, 0, 0, 256), triangle(0, 0, 0, 256, 256, 0), triangle(1, 1, 3, 3, 7, 7)
	ordered := exchanged(counter, 1, 2)
	for _, c := range []struct {
		tri       [3]api.ScreenVertex
		mode      api.CullMode
		clockwise bool
		want      api.Triangle
		drawn     bool
	}{
		{clockwise, api.CullNone, true, api.Triangle{V: clockwise, Primitive: 7, Front: true}, true}, {clockwise, api.CullNone, false, api.Triangle{V: clockwise, Primitive: 7}, true}, {counter, api.CullNone, true, api.Triangle{V: ordered, Primitive: 7}, true}, {counter, api.CullNone, false, api.Triangle{V: ordered, Primitive: 7, Front: true}, true},
		{clockwise, api.CullBack, true, api.Triangle{V: clockwise, Primitive: 7, Front: true}, true}, {clockwise, api.CullBack, false, api.Triangle{}, false}, {counter, api.CullBack, true, api.Triangle{}, false}, {counter, api.CullBack, false, api.Triangle{V: ordered, Primitive: 7, Front: true}, true},
		{clockwise, api.CullFront, true, api.Triangle{}, false}, {clockwise, api.CullFront, false, api.Triangle{V: clockwise, Primitive: 7}, true}, {counter, api.CullFront, true, api.Triangle{V: ordered, Primitive: 7}, true}, {counter, api.CullFront, false, api.Triangle{}, false},
		{flat, api.CullNone, true, api.Triangle{}, false}, {triangle(-1, 0, 256, 0, 0, 256), api.CullNone, true, api.Triangle{}, false}, {triangle(0, 0, end+1, 0, 0, 256), api.CullNone, false, api.Triangle{}, false}, {clockwise, 0, true, api.Triangle{}, false}, {clockwise, 4, true, api.Triangle{}, false}, {clockwise, largest, false, api.Triangle{}, false},
	} {
		text := fmt.Sprint(c.tri)
		got, drawn := cull.Setup(c.tri, c.mode, c.clockwise, 7)
		if drawn != c.drawn || fmt.Sprint(got) != fmt.Sprint(c.want) {
			t.Errorf("%v with mode %d becomes %v, %t, want %v", c.tri, c.mode, got, drawn, c.want)
		}
		for i := range got.V {
			for k := range got.V[i].Varyings {
				got.V[i].Varyings[k] = -99
			}
		}
		if fmt.Sprint(c.tri) != text {
			t.Error("Setup changed its argument, or shares memory with it")
		}
	}
	for _, primitive := range []int{0, -1, smallest, largest} {
		if got, drawn := cull.Setup(clockwise, api.CullNone, true, primitive); !drawn || got.Primitive != primitive {
			t.Errorf("the primitive is %d, want %d", got.Primitive, primitive)
		}
	}
}

// TestP33_4Arbitrary compares areas with exact numbers, and with those of triangles in another order.
func TestP33_4Arbitrary(t *testing.T) {
	s := state(1)
	counts := map[int]int{}
	for range 20000 {
		tri := s.triangle()
		area := cull.Area(tri)
		if want := expectedArea(tri); area != want {
			t.Fatalf("the area of %v is %d, want %d", tri, area, want)
		}
		for _, pair := range [][2]int{{0, 1}, {0, 2}, {1, 2}} {
			if got := cull.Area(exchanged(tri, pair[0], pair[1])); got != -area {
				t.Fatalf("the area of %v is %d, and with two vertices exchanged %d", tri, area, got)
			}
		}
		if got := cull.Area([3]api.ScreenVertex{tri[1], tri[2], tri[0]}); got != area {
			t.Fatalf("the area of %v is %d, and rotated %d", tri, area, got)
		}
		mode, clockwise := api.CullMode(1+s.next(3)), s.next(2) == 0
		got, drawn := cull.Setup(tri, mode, clockwise, 5)
		if drawn != cull.Keep(area, mode, clockwise) || drawn && (cull.Area(got.V) <= 0 || got.Front != cull.IsFront(area, clockwise)) || !drawn && got.Front {
			t.Fatalf("%v becomes %v, %t", tri, got, drawn)
		}
		if drawn {
			counts[int(mode)]++
			var names [2][]string
			for i := range 3 {
				names[0], names[1] = append(names[0], fmt.Sprint(tri[i])), append(names[1], fmt.Sprint(got.V[i]))
			}
			slices.Sort(names[0][1:])
			slices.Sort(names[1][1:])
			if !slices.Equal(names[0], names[1]) {
				t.Fatalf("%v has other vertices than %v", got, tri)
			}
		}
	}
	for mode := 1; mode <= 3; mode++ {
		if counts[mode] < 1000 {
			t.Errorf("only %d triangles were drawn with mode %d", counts[mode], mode)
		}
	}
}

func TestP33_4Example(t *testing.T) {
	tri := triangle(0, 0, 256, 0, 0, 256)
	if area := cull.Area(tri); area != 65536 || !cull.IsFront(area, true) || cull.IsFront(area, false) {
		t.Errorf("the area is %d", area)
	}
}
