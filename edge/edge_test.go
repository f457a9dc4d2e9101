package edge_test

import (
	"fmt"
	"math"
	"math/big"
	"testing"

	"frustum/api"
	"frustum/edge"
)

const (
	end      = api.MaxScreen
	largest  = math.MaxInt
	smallest = math.MinInt
)

// triangle returns a triangle whose vertices have these coordinates.
func triangle(x0, y0, x1, y1, x2, y2 int) api.Triangle {
	return api.Triangle{V: [3]api.ScreenVertex{{X: x0, Y: y0, Varyings: []int{1}}, {X: x1, Y: y1, Z: 5}, {X: x2, Y: y2, InvW: 7}}, Primitive: 9, Front: true}
}

// state makes arbitrary coordinates.
type state uint64

func (s *state) next(beyond int) int {
	*s = *s*6364136223846793005 + 1442695040888963407
	return int(*s>>33) % beyond
}

// coordinate returns a coordinate that is mostly in range, and often one of a few.
func (s *state) coordinate() int {
	switch s.next(12) {
	case 0:
		return []int{0, 1, end - 1, end}[s.next(4)]
	case 1:
		return []int{-1, end + 1, smallest, largest, 1 << 32, -1 << 32, 1<<32 + 5, 1 << 62}[s.next(8)]
	case 2, 3, 4:
		return s.next(4) * 256
	}
	return s.next(end + 1)
}

func (s *state) triangle() api.Triangle {
	return triangle(s.coordinate(), s.coordinate(), s.coordinate(), s.coordinate(), s.coordinate(), s.coordinate())
}

// within returns a coordinate, limited to those of the screen.
func within(x int) int {
	if x < 0 {
		return 0
	}
	if x > 16384 {
		return 16384
	}
	return x
}

// expectedFunction returns the determinant of the vectors from a to b and from a to p, in exact numbers.
func expectedFunction(ax, ay, bx, by, px, py int) int {
	vector := func(fromX, fromY, toX, toY int) (*big.Int, *big.Int) {
		return big.NewInt(int64(within(toX) - within(fromX))), big.NewInt(int64(within(toY) - within(fromY)))
	}
	ux, uy := vector(ax, ay, bx, by)
	vx, vy := vector(ax, ay, px, py)
	return int(new(big.Int).Sub(new(big.Int).Mul(ux, vy), new(big.Int).Mul(uy, vx)).Int64())
}

// expectedTopLeft reports whether an edge goes up, or horizontally to the right.
func expectedTopLeft(ax, ay, bx, by int) bool {
	dx, dy := within(bx)-within(ax), within(by)-within(ay)
	return dy < 0 || dy == 0 && dx > 0
}

func expectedAccepts(ax, ay, bx, by, px, py int) bool {
	switch f := expectedFunction(ax, ay, bx, by, px, py); {
	case f == 0:
		return expectedTopLeft(ax, ay, bx, by)
	default:
		return f > 0
	}
}

// expectedValid reports whether a triangle is valid.
func expectedValid(t api.Triangle) bool {
	for _, v := range t.V {
		if v.X != within(v.X) || v.Y != within(v.Y) {
			return false
		}
	}
	return expectedFunction(t.V[0].X, t.V[0].Y, t.V[1].X, t.V[1].Y, t.V[2].X, t.V[2].Y) > 0
}

func expectedCovers(t api.Triangle, px, py int) bool {
	a, b, c := t.V[0], t.V[1], t.V[2]
	return expectedValid(t) && expectedAccepts(a.X, a.Y, b.X, b.Y, px, py) && expectedAccepts(b.X, b.Y, c.X, c.Y, px, py) && expectedAccepts(c.X, c.Y, a.X, a.Y, px, py)
}

// checkEdge compares Function, TopLeft and Accepts with their second readings.
func checkEdge(t *testing.T, ax, ay, bx, by, px, py int) {
	t.Helper()
	text := fmt.Sprintf("from (%d, %d) to (%d, %d) at (%d, %d)", ax, ay, bx, by, px, py)
	if got, want := edge.Function(ax, ay, bx, by, px, py), expectedFunction(ax, ay, bx, by, px, py); got != want {
		t.Errorf("Function %s is %d, want %d", text, got, want)
	}
	if got, want := edge.TopLeft(ax, ay, bx, by), expectedTopLeft(ax, ay, bx, by); got != want {
		t.Errorf("TopLeft %s is %t", text, got)
	}
	if got, want := edge.Accepts(ax, ay, bx, by, px, py), expectedAccepts(ax, ay, bx, by, px, py); got != want {
		t.Errorf("Accepts %s is %t", text, got)
	}
}

func TestP34_1Edges(t *testing.T) {
	for _, c := range []struct {
		ax, ay, bx, by, px, py int
		function               int
		topLeft, accepts       bool
	}{
		{0, 0, 256, 0, 128, 0, 0, true, true}, {256, 0, 0, 0, 128, 0, 0, false, false}, {0, 0, 256, 0, 128, 1, 256, true, true}, {0, 1, 256, 1, 128, 0, -256, true, false}, {256, 1, 0, 1, 128, 0, 256, false, true}, {0, 256, 0, 0, 0, 128, 0, true, true}, {0, 0, 0, 256, 0, 128, 0, false, false}, {0, 256, 0, 0, 1, 128, 256, true, true}, {1, 256, 1, 0, 0, 128, -256, true, false},
		{10, 20, 30, 10, 20, 15, 0, true, true}, {30, 10, 10, 20, 20, 15, 0, false, false}, {10, 10, 30, 20, 20, 15, 0, false, false}, {30, 20, 10, 10, 20, 15, 0, true, true}, {10, 10, 30, 20, 20, 16, 20, false, true}, {10, 10, 30, 20, 20, 14, -20, false, false}, {3, 4, 10, 6, 5, 20, 108, false, true}, {3, 4, 10, 6, 3, 4, 0, false, false}, {10, 6, 3, 4, 3, 4, 0, true, true},
		// Two equal points have no edge.
		{5, 5, 5, 5, 5, 5, 0, false, false}, {5, 5, 5, 5, 9, 2, 0, false, false},
		// Coordinates are limited to the screen.
		{-9, 0, end + 9, 0, 5, 0, 0, true, true}, {0, 0, 256, 0, 128, -1, 0, true, true}, {0, 0, 256, 0, smallest, smallest, 0, true, true}, {256, end, 0, end, largest, largest, 0, false, false}, {smallest, smallest, largest, smallest, 0, largest, end * end, true, true}, {largest, largest, largest, smallest, 0, 0, -end * end, true, false}, {largest, 0, 1 << 32, 0, 5, 5, 0, false, false}, {0, -5, 0, -9, 5, 5, 0, false, false}, {-5, 0, -1, 0, 5, 5, 0, false, false}, {0, end + 1, 0, end + 2, 5, 5, 0, false, false}, {0, end, 0, end - 1, 5, 5, 5, true, true}, {0, 0, end + 1, 0, end, end, end * end, true, true},
	} {
		checkEdge(t, c.ax, c.ay, c.bx, c.by, c.px, c.py)
		if got := edge.Function(c.ax, c.ay, c.bx, c.by, c.px, c.py); got != c.function {
			t.Errorf("Function of %+v is %d", c, got)
		}
		if got := edge.TopLeft(c.ax, c.ay, c.bx, c.by); got != c.topLeft {
			t.Errorf("TopLeft of %+v is %t", c, got)
		}
		if got := edge.Accepts(c.ax, c.ay, c.bx, c.by, c.px, c.py); got != c.accepts {
			t.Errorf("Accepts of %+v is %t", c, got)
		}
	}
	s := state(1)
	for range 30000 {
		checkEdge(t, s.coordinate(), s.coordinate(), s.coordinate(), s.coordinate(), s.coordinate(), s.coordinate())
	}
}

func TestP34_2Valid(t *testing.T) {
	for _, c := range []struct {
		tri  api.Triangle
		want bool
	}{
		{triangle(0, 0, 256, 0, 0, 256), true}, {triangle(0, 0, 0, 256, 256, 0), false}, {triangle(0, 0, 1, 0, 0, 1), true}, {triangle(0, 0, 0, 0, 0, 0), false}, {triangle(1, 1, 3, 3, 7, 7), false}, {triangle(0, 0, end, 0, 0, end), true}, {triangle(end, end, 0, end, end, 0), true}, {triangle(-1, 0, 256, 0, 0, 256), false}, {triangle(0, 0, end+1, 0, 0, 256), false}, {triangle(0, -1, 256, 0, 0, 256), false}, {triangle(0, 0, 256, 0, 0, end+1), false}, {triangle(0, 0, 256, 0, -1, 256), false}, {triangle(0, 0, largest, 0, 0, largest), false}, {triangle(smallest, smallest, 0, smallest, smallest, 0), false}, {api.Triangle{}, false},
	} {
		if got := edge.Valid(c.tri); got != c.want || got != expectedValid(c.tri) {
			t.Errorf("Valid of %v is %t", c.tri.V, got)
		}
	}
	// All triangles of a small grid, moved to each corner of the screen.
	for places := range 1 << 12 {
		var tri api.Triangle
		for i := range tri.V {
			x, y := places>>(4*i)&3, places>>(4*i+2)&3
			tri.V[i].X, tri.V[i].Y = x-1, y+end-2
		}
		if got := edge.Valid(tri); got != expectedValid(tri) {
			t.Errorf("Valid of %v is %t", tri.V, got)
		}
	}
}

func TestP34_2Covers(t *testing.T) {
	tri := triangle(256, 256, 768, 256, 256, 768)
	for _, c := range []struct {
		px, py int
		want   bool
	}{
		{300, 300, true}, {256, 256, true}, {257, 256, true}, {256, 257, true}, {255, 300, false}, {300, 255, false}, {512, 512, false}, {511, 512, true}, {512, 511, true}, {512, 513, false}, {768, 256, false}, {767, 256, true}, {256, 767, true}, {256, 768, false}, {0, 0, false}, {end, end, false}, {smallest, 300, false}, {300, largest, false},
	} {
		if got := edge.Covers(tri, c.px, c.py); got != c.want || got != expectedCovers(tri, c.px, c.py) {
			t.Errorf("Covers at (%d, %d) is %t", c.px, c.py, got)
		}
		// Triangles that are not valid cover nothing.
		for _, wrong := range []api.Triangle{{}, triangle(256, 256, 256, 768, 768, 256), triangle(256, 256, end+1, 256, 256, 768), triangle(256, -1, 768, 256, 256, 768)} {
			if edge.Covers(wrong, c.px, c.py) {
				t.Errorf("%v covers (%d, %d)", wrong.V, c.px, c.py)
			}
		}
	}
	// A point beyond the screen counts as one at its border.
	corner := triangle(0, 0, end, 0, 0, end)
	for _, point := range [][2]int{{-5, -5}, {smallest, 7}, {7, smallest}} {
		if !edge.Covers(corner, point[0], point[1]) {
			t.Errorf("%v is not covered", point)
		}
	}
}

// TestP34_4Triangles compares Covers, Weights and Bounds with their second readings, for arbitrary triangles and points on their edges.
func TestP34_4Triangles(t *testing.T) {
	s := state(2)
	covered, valid := 0, 0
	for range 20000 {
		tri := s.triangle()
		text := fmt.Sprint(tri)
		a, b, c := tri.V[0], tri.V[1], tri.V[2]
		px, py := s.coordinate(), s.coordinate()
		switch s.next(4) {
		case 0:
			px, py = a.X, b.Y
		case 1:
			px, py = (within(a.X)+within(b.X))/2, (within(a.Y)+within(b.Y))/2
		case 2:
			px, py = (within(a.X)+within(b.X)+within(c.X))/3, (within(a.Y)+within(b.Y)+within(c.Y))/3
		}
		want := expectedCovers(tri, px, py)
		if got := edge.Covers(tri, px, py); got != want {
			t.Fatalf("Covers of %v at (%d, %d) is %t", tri.V, px, py, got)
		}
		if want {
			covered++
		}
		var weights [3]int
		var bounds [4]int
		area := 0
		if expectedValid(tri) {
			valid++
			weights = [3]int{expectedFunction(b.X, b.Y, c.X, c.Y, px, py), expectedFunction(c.X, c.Y, a.X, a.Y, px, py), expectedFunction(a.X, a.Y, b.X, b.Y, px, py)}
			area = expectedFunction(a.X, a.Y, b.X, b.Y, c.X, c.Y)
			bounds = [4]int{end, end, 0, 0}
			for _, v := range tri.V {
				bounds = [4]int{min(bounds[0], v.X), min(bounds[1], v.Y), max(bounds[2], v.X), max(bounds[3], v.Y)}
			}
		}
		if got, sum := edge.Weights(tri, px, py); got != weights || sum != area || sum != weights[0]+weights[1]+weights[2] {
			t.Fatalf("the weights of %v at (%d, %d) are %v with the sum %d, want %v and %d", tri.V, px, py, got, sum, weights, area)
		}
		left, top, right, bottom := edge.Bounds(tri)
		if got := [4]int{left, top, right, bottom}; got != bounds {
			t.Fatalf("the bounds of %v are %v, want %v", tri.V, got, bounds)
		}
		if fmt.Sprint(tri) != text {
			t.Fatal("the triangle was changed")
		}
	}
	if covered < 1500 || valid < 5000 {
		t.Errorf("only %d triangles are valid, and only %d points are covered", valid, covered)
	}
}

func TestP34_2Weights(t *testing.T) {
	tri := triangle(0, 0, 256, 0, 0, 256)
	for _, c := range []struct {
		px, py int
		want   [3]int
	}{
		{0, 0, [3]int{65536, 0, 0}}, {256, 0, [3]int{0, 65536, 0}}, {0, 256, [3]int{0, 0, 65536}}, {128, 128, [3]int{0, 32768, 32768}}, {64, 64, [3]int{32768, 16384, 16384}}, {256, 256, [3]int{-65536, 65536, 65536}}, {-7, 300, [3]int{-11264, 0, 76800}}, {largest, smallest, [3]int{65536 - 256*end, 256 * end, 0}},
	} {
		if got, sum := edge.Weights(tri, c.px, c.py); got != c.want || sum != 65536 {
			t.Errorf("the weights at (%d, %d) are %v with the sum %d, want %v", c.px, c.py, got, sum, c.want)
		}
	}
	for _, wrong := range []api.Triangle{{}, triangle(0, 0, 0, 256, 256, 0), triangle(0, 0, 256, 0, 0, end+1), triangle(-1, 0, 256, 0, 0, 256)} {
		if got, sum := edge.Weights(wrong, 5, 5); got != [3]int{} || sum != 0 {
			t.Errorf("the weights of %v are %v with the sum %d", wrong.V, got, sum)
		}
		if left, top, right, bottom := edge.Bounds(wrong); left != 0 || top != 0 || right != 0 || bottom != 0 {
			t.Errorf("the bounds of %v are %d, %d, %d, %d", wrong.V, left, top, right, bottom)
		}
	}
	if left, top, right, bottom := edge.Bounds(triangle(30, 20, 40, 60, 10, 50)); left != 10 || top != 20 || right != 40 || bottom != 60 {
		t.Errorf("the bounds are %d, %d, %d, %d", left, top, right, bottom)
	}
}

// TestP34_4Directions shows that each point belongs to exactly one side of an edge, for all points of a small grid and arbitrary ones.
func TestP34_4Directions(t *testing.T) {
	check := func(ax, ay, bx, by, px, py int) {
		t.Helper()
		if within(ax) == within(bx) && within(ay) == within(by) {
			return
		}
		if edge.Accepts(ax, ay, bx, by, px, py) == edge.Accepts(bx, by, ax, ay, px, py) {
			t.Errorf("the point (%d, %d) does not belong to one side of the edge from (%d, %d) to (%d, %d)", px, py, ax, ay, bx, by)
		}
	}
	for places := range 1 << 12 {
		at := func(i int) int { return places >> (2 * i) & 3 }
		check(at(0), at(1), at(2), at(3), at(4), at(5))
		check(end-at(0), at(1), end-at(2), at(3), end-at(4), at(5))
	}
	s := state(3)
	for range 20000 {
		ax, ay, bx, by := s.coordinate(), s.coordinate(), s.coordinate(), s.coordinate()
		check(ax, ay, bx, by, s.coordinate(), s.coordinate())
		check(ax, ay, bx, by, (within(ax)+within(bx))/2, (within(ay)+within(by))/2)
		check(ax, ay, bx, by, ax, ay)
	}
}

// TestP34_4Shared shows that no point is covered by both triangles with a common edge, and that a point that all of their other edges accept is covered by one.
func TestP34_4Shared(t *testing.T) {
	s := state(4)
	pairs, once := 0, 0
	for range 3000 {
		size := []int{4, 12, 40}[s.next(3)]
		point := func() [2]int { return [2]int{s.next(size), s.next(size)} }
		a, b, c, d := point(), point(), point(), point()
		one, two := triangle(a[0], a[1], b[0], b[1], c[0], c[1]), triangle(b[0], b[1], a[0], a[1], d[0], d[1])
		if !edge.Valid(one) || !edge.Valid(two) {
			continue
		}
		pairs++
		for py := range size {
			for px := range size {
				first, second := edge.Covers(one, px, py), edge.Covers(two, px, py)
				if first && second {
					t.Fatalf("%v and %v both cover (%d, %d)", one.V, two.V, px, py)
				}
				others := true
				for _, e := range [][2][2]int{{b, c}, {c, a}, {a, d}, {d, b}} {
					others = others && edge.Accepts(e[0][0], e[0][1], e[1][0], e[1][1], px, py)
				}
				if others && !first && !second {
					t.Fatalf("neither %v nor %v covers (%d, %d)", one.V, two.V, px, py)
				}
				if others {
					once++
				}
			}
		}
	}
	if pairs < 400 || once < 10000 {
		t.Errorf("only %d pairs of triangles have %d points in them", pairs, once)
	}
}
