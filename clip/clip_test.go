package clip_test

import (
	"fmt"
	"math"
	"math/big"
	"slices"
	"testing"

	"frustum/api"
	"frustum/clip"
)

const (
	one  = api.One
	most = api.MaxValue
)

// vertex returns a vertex with a position and varyings.
func vertex(x, y, z, w int, varyings ...int) api.Vertex {
	return api.Vertex{Position: api.Vec4{X: x, Y: y, Z: z, W: w}, Varyings: varyings}
}

// parts returns the components of a position.
func parts(v api.Vertex) []int {
	return []int{v.Position.X, v.Position.Y, v.Position.Z, v.Position.W}
}

func same(a, b api.Vertex) bool {
	return a.Position == b.Position && slices.Equal(a.Varyings, b.Varyings)
}

// state makes arbitrary vertices.
type state uint64

func (s *state) next(beyond int) int {
	*s = *s*6364136223846793005 + 1442695040888963407
	return int(*s>>33) % beyond
}

// number returns a number of any magnitude, or one of the numbers at which distances change.
func (s *state) number() int {
	if s.next(3) == 0 {
		return []int{0, 1, -1, one, -one, 2 * one, api.MinW, api.MinW - 1, api.MinW + 1, most, -most, most - 1, most + 1, -most - 1, math.MaxInt, math.MinInt, one / 2, one + 1}[s.next(18)]
	}
	*s = *s*6364136223846793005 + 1442695040888963407
	return int(*s) >> (*s >> 17 % 64)
}

// near returns a number between -3 and 3 times One.
func (s *state) near() int {
	return s.next(6*one) - 3*one
}

// vertex returns an arbitrary vertex, mostly one near the planes.
func (s *state) vertex(varyings int) api.Vertex {
	v := vertex(s.near(), s.near(), s.near(), s.next(2*one)-one/8)
	if s.next(4) == 0 {
		v = vertex(s.number(), s.number(), s.number(), s.number())
	}
	for range varyings {
		v.Varyings = append(v.Varyings, s.number())
	}
	return v
}

func (s *state) triangle() [3]api.Vertex {
	count := s.next(3)
	return [3]api.Vertex{s.vertex(count), s.vertex(count), s.vertex(count)}
}

// exact numbers and their operations, as chapter 1 defines them.
func exact(x int) *big.Int { return big.NewInt(int64(x)) }

func sat(x *big.Int) *big.Int {
	if x.CmpAbs(exact(most)) > 0 {
		return exact(most * x.Sign())
	}
	return x
}

func sum(a, b *big.Int) *big.Int        { return new(big.Int).Add(a, b) }
func difference(a, b *big.Int) *big.Int { return new(big.Int).Sub(a, b) }

// rounded returns n/d rounded to the nearest integer, halves away from zero.
func rounded(n, d *big.Int) *big.Int {
	twice := new(big.Int).Abs(n)
	twice.Lsh(twice, 1).Add(twice, d)
	twice.Quo(twice, new(big.Int).Lsh(d, 1))
	if n.Sign() < 0 {
		twice.Neg(twice)
	}
	return twice
}

// number returns an exact number as an int.
func number(x *big.Int) int { return int(x.Int64()) }

// expectedDistance returns the distance of a vertex from a plane.
func expectedDistance(v api.Vertex, plane int) *big.Int {
	p := parts(v)
	x, y, z, w := sat(exact(p[0])), sat(exact(p[1])), sat(exact(p[2])), sat(exact(p[3]))
	switch plane {
	case 0:
		return sat(difference(w, exact(256)))
	case 1:
		return sat(sum(w, x))
	case 2:
		return sat(difference(w, x))
	case 3:
		return sat(sum(w, y))
	case 4:
		return sat(difference(w, y))
	case 5:
		return z
	case 6:
		return sat(difference(w, z))
	}
	return exact(0)
}

func expectedInside(v api.Vertex, plane int) bool {
	return expectedDistance(v, plane).Sign() >= 0
}

// expectedSaturated returns a saturated vertex.
func expectedSaturated(v api.Vertex) api.Vertex {
	p := parts(v)
	r := vertex(number(sat(exact(p[0]))), number(sat(exact(p[1]))), number(sat(exact(p[2]))), number(sat(exact(p[3]))))
	for _, x := range v.Varyings {
		r.Varyings = append(r.Varyings, number(sat(exact(x))))
	}
	return r
}

// expectedIntersect returns the vertex between two vertices.
func expectedIntersect(a, b api.Vertex, plane int) api.Vertex {
	a, b = expectedSaturated(a), expectedSaturated(b)
	if expectedInside(a, plane) == expectedInside(b, plane) {
		return a
	}
	i, o := a, b
	if expectedInside(b, plane) {
		i, o = b, a
	}
	di, do := expectedDistance(i, plane), expectedDistance(o, plane)
	t := rounded(new(big.Int).Mul(di, exact(one)), difference(di, do))
	lerp := func(x, y int) int {
		step := new(big.Int).Mul(sat(difference(exact(y), exact(x))), t)
		return number(sat(sum(exact(x), sat(rounded(step, exact(one))))))
	}
	p, q := parts(i), parts(o)
	r := vertex(lerp(p[0], q[0]), lerp(p[1], q[1]), lerp(p[2], q[2]), lerp(p[3], q[3]))
	for k, x := range i.Varyings {
		y := 0
		if k < len(o.Varyings) {
			y = o.Varyings[k]
		}
		r.Varyings = append(r.Varyings, lerp(x, y))
	}
	return r
}

// expectedEdge returns the part of an edge that is inside a plane.
func expectedEdge(a, b api.Vertex, plane int) []api.Vertex {
	both := fmt.Sprint(expectedInside(a, plane), expectedInside(b, plane))
	return map[string][]api.Vertex{
		"false false": nil, "true true": {expectedSaturated(b)}, "true false": {expectedIntersect(a, b, plane)}, "false true": {expectedIntersect(a, b, plane), expectedSaturated(b)},
	}[both]
}

func expectedAgainst(polygon []api.Vertex, plane int) []api.Vertex {
	if len(polygon) == 0 {
		return nil
	}
	list := expectedEdge(polygon[len(polygon)-1], polygon[0], plane)
	for i := range len(polygon) - 1 {
		list = append(list, expectedEdge(polygon[i], polygon[i+1], plane)...)
	}
	return list
}

func expectedPolygon(tri [3]api.Vertex) []api.Vertex {
	list := []api.Vertex{tri[0], tri[1], tri[2]}
	for _, plane := range []int{0, 1, 2, 3, 4, 5, 6} {
		list = expectedAgainst(list, plane)
	}
	return list
}

func expectedTriangles(polygon []api.Vertex) [][3]api.Vertex {
	var list [][3]api.Vertex
	for i := 1; i <= len(polygon)-2; i++ {
		list = append(list, [3]api.Vertex{expectedSaturated(polygon[0]), expectedSaturated(polygon[i]), expectedSaturated(polygon[i+1])})
	}
	return list
}

// planes returns the numbers of the planes, and numbers that are none.
func planes() []int {
	return []int{0, 1, 2, 3, 4, 5, 6, 7, 8, -1, -7, 256, 1 << 32, 1<<32 + 1, math.MaxInt, math.MinInt}
}

func TestP31_1Distance(t *testing.T) {
	for _, c := range []struct {
		v    api.Vertex
		want [7]int
	}{
		{vertex(0, 0, 0, 0), [7]int{-256, 0, 0, 0, 0, 0, 0}}, {vertex(1, 20, 300, 4000), [7]int{3744, 4001, 3999, 4020, 3980, 300, 3700}}, {vertex(0, 0, 0, 256), [7]int{0, 256, 256, 256, 256, 0, 256}}, {vertex(0, 0, 0, 255), [7]int{-1, 255, 255, 255, 255, 0, 255}}, {vertex(one, -one, one, one), [7]int{one - 256, 2 * one, 0, 0, 2 * one, one, 0}}, {vertex(one+1, -one-1, one+1, one), [7]int{one - 256, 2*one + 1, -1, -1, 2*one + 1, one + 1, -1}}, {vertex(5, 5, -1, -7), [7]int{-263, -2, -12, -2, -12, -1, -6}},
		{vertex(most, -most, most, most), [7]int{most - 256, most, 0, 0, most, most, 0}}, {vertex(most, most, -most, -most), [7]int{-most, 0, -most, 0, -most, -most, 0}}, {vertex(math.MaxInt, math.MinInt, math.MinInt, math.MaxInt), [7]int{most - 256, most, 0, 0, most, -most, most}}, {vertex(most+9, -most-9, math.MaxInt, math.MinInt), [7]int{-most, 0, -most, -most, 0, most, -most}},
	} {
		for plane, want := range c.want {
			if got := clip.Distance(c.v, plane); got != want {
				t.Errorf("the distance of %v from plane %d is %d, want %d", c.v, plane, got, want)
			}
		}
	}
	s := state(1)
	for range 5000 {
		v := s.vertex(1)
		for _, plane := range planes() {
			if got, want := clip.Distance(v, plane), number(expectedDistance(v, plane)); got != want {
				t.Errorf("the distance of %v from plane %d is %d, want %d", v, plane, got, want)
			}
		}
	}
}

func TestP31_1Inside(t *testing.T) {
	for _, c := range []struct {
		v    api.Vertex
		want bool
	}{
		{vertex(0, 0, 0, 256), true}, {vertex(0, 0, 0, 255), false}, {vertex(0, 0, 0, 0), false}, {vertex(one, one, one, one), true}, {vertex(-one, -one, 0, one), true}, {vertex(one+1, 0, 0, one), false}, {vertex(-one-1, 0, 0, one), false}, {vertex(0, one+1, 0, one), false}, {vertex(0, -one-1, 0, one), false}, {vertex(0, 0, -1, one), false}, {vertex(0, 0, one+1, one), false}, {vertex(0, 0, 0, -one), false}, {vertex(most, -most, most, most), true}, {vertex(math.MaxInt, math.MinInt, math.MaxInt, math.MaxInt), true}, {vertex(math.MaxInt, 0, 0, most-1), false}, {vertex(0, 0, 0, one, math.MinInt, math.MaxInt), true},
	} {
		if got := clip.Inside(c.v); got != c.want {
			t.Errorf("Inside of %v is %t", c.v, got)
		}
	}
	s := state(2)
	counts := map[bool]int{}
	for range 5000 {
		v, want := s.vertex(0), true
		for plane := range 7 {
			want = want && expectedInside(v, plane)
		}
		counts[want]++
		if got := clip.Inside(v); got != want {
			t.Errorf("Inside of %v is %t", v, got)
		}
	}
	if counts[true] < 30 {
		t.Errorf("only %d vertices are inside", counts[true])
	}
}

func TestP31_2Intersect(t *testing.T) {
	for _, c := range []struct {
		a, b  api.Vertex
		plane int
		want  api.Vertex
	}{
		// The middle, and other points of an edge.
		{vertex(0, 0, 0, one), vertex(2*one, 0, 0, one), 2, vertex(one, 0, 0, one)}, {vertex(2*one, 0, 0, one), vertex(0, 0, 0, one), 2, vertex(one, 0, 0, one)}, {vertex(0, 0, 0, one, 0, one), vertex(4*one, 0, 0, one, one, 0), 2, vertex(one, 0, 0, one, one/4, 3*one/4)}, {vertex(0, 0, one/2, one), vertex(0, one, -one/2, one), 5, vertex(0, one/2, 0, one)},
		// At a plane: the vertex inside itself.
		{vertex(one, 5, 6, one, 7), vertex(2*one, 0, 0, one, 8), 2, vertex(one, 5, 6, one, 7)}, {vertex(3, 5, 6, 255, 7), vertex(0, 0, 0, 256, 8), 0, vertex(0, 0, 0, 256, 8)},
		// Both or none of the vertices are inside.
		{vertex(0, 0, 0, one, 1), vertex(one, 0, 0, one, 2), 2, vertex(0, 0, 0, one, 1)}, {vertex(2*one, 0, 0, one, 1), vertex(3*one, 0, 0, one, 2), 2, vertex(2*one, 0, 0, one, 1)}, {vertex(math.MaxInt, math.MinInt, 0, one, math.MaxInt), vertex(most, 0, 0, one), 2, vertex(most, -most, 0, one, most)}, {vertex(math.MaxInt, 0, 0, one, 5), vertex(0, 0, 0, one), 7, vertex(most, 0, 0, one, 5)}, {vertex(-9, 0, 0, one, math.MinInt), vertex(0, 0, 0, one), -1, vertex(-9, 0, 0, one, -most)},
		// Missing and further varyings.
		{vertex(0, 0, 0, one, one, one), vertex(2*one, 0, 0, one, 3*one), 2, vertex(one, 0, 0, one, 2*one, one/2)}, {vertex(0, 0, 0, one), vertex(2*one, 0, 0, one, 3*one), 2, vertex(one, 0, 0, one)}, {vertex(2*one, 0, 0, one, 3*one, 5), vertex(0, 0, 0, one, one), 2, vertex(one, 0, 0, one, 2*one)}, {vertex(2*one, 0, 0, one), vertex(0, 0, 0, one, one), 2, vertex(one, 0, 0, one, one/2)},
		// The difference of the distances is exact, although it is not saturated: t is a half.
		{vertex(0, 0, most, most), vertex(0, 0, -most, most), 5, vertex(0, 0, most-(most+1)/2, most)}, {vertex(8*one, 0, most, most, 6*one), vertex(0, 0, -most, most, 0), 5, vertex(4*one, 0, most-(most+1)/2, most, 3*one)},
	} {
		text := fmt.Sprint(c.a, c.b)
		got := clip.Intersect(c.a, c.b, c.plane)
		if !same(got, c.want) || !same(got, expectedIntersect(c.a, c.b, c.plane)) {
			t.Errorf("between %v and %v there is %v in plane %d, want %v and %v", c.a, c.b, got, c.plane, c.want, expectedIntersect(c.a, c.b, c.plane))
		}
		if fmt.Sprint(c.a, c.b) != text {
			t.Error("Intersect changed its arguments")
		}
	}
}

// TestP31_3Arbitrary compares Intersect, Edge and Against with exact numbers, for vertices with different numbers of varyings.
func TestP31_3Arbitrary(t *testing.T) {
	s := state(3)
	crossings := 0
	for range 4000 {
		polygon := make([]api.Vertex, s.next(6))
		for i := range polygon {
			polygon[i] = s.vertex(s.next(3))
		}
		a, b := s.vertex(s.next(4)), s.vertex(s.next(4))
		text := fmt.Sprint(a, b, polygon)
		for _, plane := range planes() {
			if got, want := clip.Intersect(a, b, plane), expectedIntersect(a, b, plane); !same(got, want) {
				t.Fatalf("between %v and %v there is %v in plane %d, want %v", a, b, got, plane, want)
			}
			if expectedInside(a, plane) != expectedInside(b, plane) {
				crossings++
				if one, two := clip.Intersect(a, b, plane), clip.Intersect(b, a, plane); !same(one, two) {
					t.Fatalf("between %v and %v there are %v and %v in plane %d", a, b, one, two, plane)
				}
			}
			if got, want := clip.Edge(a, b, plane), expectedEdge(a, b, plane); !slices.EqualFunc(got, want, same) {
				t.Fatalf("from %v to %v there are %v in plane %d, want %v", a, b, got, plane, want)
			}
			if got, want := clip.Against(polygon, plane), expectedAgainst(polygon, plane); !slices.EqualFunc(got, want, same) {
				t.Fatalf("of the polygon %v there is %v left in plane %d, want %v", polygon, got, plane, want)
			}
		}
		if fmt.Sprint(a, b, polygon) != text {
			t.Fatal("arguments were changed")
		}
	}
	if crossings < 8000 {
		t.Errorf("only %d edges cross a plane", crossings)
	}
}

func TestP31_3Edge(t *testing.T) {
	in, out := vertex(0, 0, 0, one, 4), vertex(2*one, 0, 0, one, 8)
	middle, far := vertex(one, 0, 0, one, 6), vertex(math.MinInt, 0, 0, most, math.MaxInt)
	for _, c := range []struct {
		a, b api.Vertex
		want []api.Vertex
	}{
		{in, in, []api.Vertex{in}}, {out, out, nil}, {in, out, []api.Vertex{middle}}, {out, in, []api.Vertex{middle, in}}, {in, far, []api.Vertex{vertex(-most, 0, 0, most, most)}}, {far, in, []api.Vertex{in}},
	} {
		if got := clip.Edge(c.a, c.b, 2); !slices.EqualFunc(got, c.want, same) {
			t.Errorf("from %v to %v there are %v, want %v", c.a, c.b, got, c.want)
		}
	}
	for _, c := range []struct{ polygon, want []api.Vertex }{
		{nil, nil}, {[]api.Vertex{}, nil}, {[]api.Vertex{in}, []api.Vertex{in}}, {[]api.Vertex{out}, nil}, {[]api.Vertex{in, out}, []api.Vertex{middle, in, middle}}, {[]api.Vertex{out, in}, []api.Vertex{middle, middle, in}}, {[]api.Vertex{in, in, out}, []api.Vertex{middle, in, in, middle}}, {[]api.Vertex{out, in, out}, []api.Vertex{middle, in, middle}}, {[]api.Vertex{in, in, in, in}, []api.Vertex{in, in, in, in}}, {[]api.Vertex{in, out, in, out}, []api.Vertex{middle, in, middle, middle, in, middle}}, {[]api.Vertex{far}, []api.Vertex{vertex(-most, 0, 0, most, most)}},
	} {
		if got := clip.Against(c.polygon, 2); !slices.EqualFunc(got, c.want, same) {
			t.Errorf("of %v there is %v left, want %v", c.polygon, got, c.want)
		}
	}
	// Where there is no plane, all vertices are kept.
	for _, plane := range planes()[7:] {
		if got := clip.Against([]api.Vertex{out, far, in}, plane); !slices.EqualFunc(got, []api.Vertex{out, vertex(-most, 0, 0, most, most), in}, same) {
			t.Errorf("there is %v left in plane %d", got, plane)
		}
	}
}

func TestP31_3Example(t *testing.T) {
	tri := [3]api.Vertex{vertex(0, 0, 0, one), vertex(2*one, 0, 0, one), vertex(0, one, 0, one)}
	want := []api.Vertex{vertex(0, 0, 0, one), vertex(one, 0, 0, one), vertex(one, one/2, 0, one), vertex(0, one, 0, one)}
	if got := clip.Polygon(tri); !slices.EqualFunc(got, want, same) {
		t.Errorf("the polygon is %v, want %v", got, want)
	}
	triangles := [][3]api.Vertex{{want[0], want[1], want[2]}, {want[0], want[2], want[3]}}
	if got := clip.Clip(tri); fmt.Sprint(got) != fmt.Sprint(triangles) {
		t.Errorf("the triangles are %v, want %v", got, triangles)
	}
}

func TestP31_4Triangles(t *testing.T) {
	var polygon []api.Vertex
	for n := range 12 {
		got := clip.Triangles(polygon)
		var places [][3]int
		for _, tri := range got {
			places = append(places, [3]int{tri[0].Position.X, tri[1].Position.X, tri[2].Position.X})
		}
		var want [][3]int
		for i := 1; i <= n-2; i++ {
			want = append(want, [3]int{0, i, i + 1})
		}
		if !slices.Equal(places, want) {
			t.Errorf("%d vertices have the triangles %v, want %v", n, places, want)
		}
		polygon = append(polygon, vertex(n, 2, 3, 4, 5))
	}
	wide := []api.Vertex{vertex(math.MaxInt, 0, 0, 0, math.MinInt), vertex(0, math.MinInt, 0, 0), vertex(0, 0, most+1, -most-1, 1, most+1)}
	if got := clip.Triangles(wide); len(got) != 1 || !same(got[0][0], vertex(most, 0, 0, 0, -most)) || !same(got[0][1], vertex(0, -most, 0, 0)) || !same(got[0][2], vertex(0, 0, most, -most, 1, most)) {
		t.Errorf("the triangles are %v", got)
	}
}

// TestP31_4Arbitrary compares Polygon, Triangles and Clip with their second readings.
func TestP31_4Arbitrary(t *testing.T) {
	s := state(4)
	sizes := map[int]int{}
	for range 8000 {
		tri := s.triangle()
		text := fmt.Sprint(tri)
		want := expectedPolygon(tri)
		sizes[len(want)]++
		if got := clip.Polygon(tri); !slices.EqualFunc(got, want, same) {
			t.Fatalf("of the triangle %v there is %v left, want %v", tri, got, want)
		}
		triangles := fmt.Sprint(expectedTriangles(want))
		if got := fmt.Sprint(clip.Triangles(want)); got != triangles {
			t.Fatalf("the polygon %v has the triangles %v, want %v", want, got, triangles)
		}
		if got := fmt.Sprint(clip.Clip(tri)); got != triangles {
			t.Fatalf("of the triangle %v there are %v left, want %v", tri, got, triangles)
		}
		if fmt.Sprint(tri) != text {
			t.Fatal("the triangle was changed")
		}
	}
	for _, n := range []int{0, 3, 4, 5, 6, 7} {
		if sizes[n] < 30 {
			t.Errorf("only %d polygons have %d vertices", sizes[n], n)
		}
	}
}

func TestP31_5Inside(t *testing.T) {
	s := state(5)
	for range 2000 {
		var tri [3]api.Vertex
		for i := range tri {
			w := api.MinW + s.next(most-api.MinW)>>s.next(20)
			w = max(w, api.MinW)
			tri[i] = vertex(s.next(2*w+1)-w, s.next(2*w+1)-w, s.next(w+1), w, s.number())
		}
		want := []api.Vertex{expectedSaturated(tri[0]), expectedSaturated(tri[1]), expectedSaturated(tri[2])}
		if !clip.Inside(tri[0]) || !clip.Inside(tri[1]) || !clip.Inside(tri[2]) {
			t.Fatalf("the test is wrong: %v is not inside", tri)
		}
		if got := clip.Polygon(tri); !slices.EqualFunc(got, want, same) {
			t.Fatalf("the triangle %v becomes %v", tri, got)
		}
		if got := clip.Clip(tri); len(got) != 1 || !slices.EqualFunc(got[0][:], want, same) {
			t.Fatalf("the triangle %v becomes %v", tri, got)
		}
	}
	// Outside of one plane there is nothing left.
	for plane, v := range []api.Vertex{vertex(0, 0, 0, 255), vertex(-2*one, 0, 0, one), vertex(2*one, 0, 0, one), vertex(0, -2*one, 0, one), vertex(0, 2*one, 0, one), vertex(0, 0, -1, one), vertex(0, 0, one+1, one)} {
		if got := clip.Clip([3]api.Vertex{v, v, v}); len(got) > 0 {
			t.Errorf("outside of plane %d there is %v left", plane, got)
		}
	}
}

// segment returns the part of an edge that is inside all planes, and whether there is one.
func segment(a, b api.Vertex) ([2]api.Vertex, bool) {
	a, b = expectedSaturated(a), expectedSaturated(b)
	for plane := range 7 {
		middle := expectedIntersect(a, b, plane)
		switch inA, inB := expectedInside(a, plane), expectedInside(b, plane); {
		case !inA && !inB:
			return [2]api.Vertex{}, false
		case !inA:
			a = middle
		case !inB:
			b = middle
		}
	}
	return [2]api.Vertex{a, b}, true
}

// hasEdge reports whether two vertices follow each other in a polygon.
func hasEdge(polygon []api.Vertex, a, b api.Vertex) bool {
	for i, v := range polygon {
		if same(v, a) && same(polygon[(i+1)%len(polygon)], b) {
			return true
		}
	}
	return false
}

// TestP31_5Shared clips two triangles with a common edge, of which the same part is left in both.
func TestP31_5Shared(t *testing.T) {
	s := state(6)
	left, clipped := 0, 0
	for range 6000 {
		a, b, c, d := s.vertex(1), s.vertex(1), s.vertex(1), s.vertex(1)
		edge, found := segment(a, b)
		if !found {
			continue
		}
		left++
		if !same(edge[0], expectedSaturated(a)) || !same(edge[1], expectedSaturated(b)) {
			clipped++
		}
		for _, tri := range [][3]api.Vertex{{a, b, c}, {b, c, a}, {c, a, b}, {a, b, d}} {
			if polygon := clip.Polygon(tri); !hasEdge(polygon, edge[0], edge[1]) {
				t.Fatalf("of %v there is %v left, without the edge %v", tri, polygon, edge)
			}
			if polygon := clip.Polygon([3]api.Vertex{tri[0], tri[2], tri[1]}); !hasEdge(polygon, edge[1], edge[0]) {
				t.Fatalf("of %v the other way round there is %v left, without the edge %v", tri, polygon, edge)
			}
		}
	}
	if left < 500 || clipped < 400 {
		t.Errorf("only %d edges are left, and %d of them were clipped", left, clipped)
	}
}

// TestP31_3Memory changes results, which share no memory.
func TestP31_3Memory(t *testing.T) {
	in, out := vertex(0, 0, 0, one, 4, 5), vertex(2*one, 0, 0, one, 8, 9)
	tri := [3]api.Vertex{in, out, vertex(0, one, 0, one, 6, 7)}
	text := fmt.Sprint(tri)
	spoil := func(list ...api.Vertex) {
		for i, v := range list {
			for k, other := range list {
				if i < k && &v.Varyings[0] == &other.Varyings[0] {
					t.Errorf("vertices %d and %d share memory", i, k)
				}
			}
			clear(v.Varyings[:cap(v.Varyings)])
		}
	}
	for plane := range 8 {
		spoil(clip.Intersect(in, out, plane), clip.Intersect(out, in, plane), clip.Intersect(in, in, plane))
		spoil(slices.Concat(clip.Edge(in, out, plane), clip.Edge(out, in, plane), clip.Edge(in, in, plane))...)
		spoil(clip.Against(tri[:], plane)...)
	}
	spoil(clip.Polygon(tri)...)
	for _, list := range [][][3]api.Vertex{clip.Clip(tri), clip.Triangles([]api.Vertex{in, out, in, out, tri[2]})} {
		var all []api.Vertex
		for _, part := range list {
			all = append(all, part[:]...)
		}
		spoil(all...)
	}
	if fmt.Sprint(tri) != text {
		t.Error("results share memory with the triangle")
	}
}
