package frontend_test

import (
	"fmt"
	"math"
	"reflect"
	"slices"
	"testing"

	"frustum/api"
	"frustum/buffer"
	"frustum/clip"
	"frustum/compiler"
	"frustum/edge"
	"frustum/fetch"
	"frustum/frontend"
	"frustum/lower"
	"frustum/pipeline"
	"frustum/vec"
	"frustum/vertexstage"
	"frustum/viewport"
)

const (
	one      = api.One
	largest  = math.MaxInt
	smallest = math.MinInt
)

// compile returns the program of a shader.
func compile(t *testing.T, text string) api.Program {
	t.Helper()
	p, line, code := compiler.Compile("shader "+text, 256)
	if code != api.OK {
		t.Fatalf("the test is wrong: %s has error %d in line %d", text, code, line)
	}
	return p
}

// vertex returns a vertex with a position and varyings.
func vertex(x, y, z, w int, varyings ...int) api.Vertex {
	return api.Vertex{Position: api.Vec4{X: x, Y: y, Z: z, W: w}, Varyings: varyings}
}

// state makes arbitrary numbers.
type state uint64

func (s *state) next(beyond int) int {
	*s = *s*6364136223846793005 + 1442695040888963407
	return int(*s>>33) % beyond
}

// coordinate returns a number around the clipping planes of w = One, or far away.
func (s *state) coordinate() int {
	if s.next(8) == 0 {
		return []int{0, one, -one, one + 1, -one - 1, 2 * one, 1, -1, largest, smallest, api.MaxValue, -api.MaxValue}[s.next(12)]
	}
	return s.next(3*one) - 3*one/2
}

// triangle returns a triangle in clip space.
func (s *state) triangle(varyings int) [3]api.Vertex {
	var tri [3]api.Vertex
	for i := range tri {
		tri[i] = vertex(s.coordinate(), s.coordinate(), s.next(one+one/2)-one/4, one)
		if s.next(4) == 0 {
			tri[i].Position.W = s.coordinate()
		}
		for range varyings {
			tri[i].Varyings = append(tri[i].Varyings, s.coordinate())
		}
	}
	return tri
}

// viewport returns a valid viewport.
func (s *state) viewport() api.Viewport {
	v := api.Viewport{X: s.next(40), Y: s.next(40), MinDepth: s.next(one + 1)}
	v.Width, v.Height = 1+s.next(64-v.X), 1+s.next(64-v.Y)
	v.MaxDepth = v.MinDepth + s.next(one+1-v.MinDepth)
	return v
}

// limited returns a saturated number.
func limited(x int) int {
	return min(max(x, -api.MaxValue), api.MaxValue)
}

// expectedScreen is a second reading of P44.1.
func expectedScreen(p api.Pipeline, tri [3]api.Vertex, primitive int) []api.Triangle {
	var corners []api.ScreenVertex
	for _, v := range clip.Polygon(tri) {
		w := max(limited(v.Position.W), api.MinW)
		corner := api.ScreenVertex{
			X: viewport.Coordinate(p.Viewport.X, p.Viewport.Width, v.Position.X, w), Y: viewport.Coordinate(p.Viewport.Y, p.Viewport.Height, -v.Position.Y, w),
			Z: viewport.Depth(p.Viewport, v.Position.Z, w), InvW: (2*one*one + w) / (2 * w), Varyings: v.Varyings,
		}
		corners = append(corners, corner)
	}
	var all []api.Triangle
	for i := 2; i < len(corners) && viewport.Valid(p.Viewport); i++ {
		a, b, c := corners[0], corners[i-1], corners[i]
		area := (b.X-a.X)*(c.Y-a.Y) - (b.Y-a.Y)*(c.X-a.X)
		front := area < 0
		if p.FrontClockwise {
			front = area > 0
		}
		keep := p.Cull == api.CullNone || p.Cull == api.CullFront && !front || p.Cull == api.CullBack && front
		switch {
		case area == 0 || !keep:
		case area > 0:
			all = append(all, api.Triangle{V: [3]api.ScreenVertex{a, b, c}, Primitive: primitive, Front: front})
		default:
			all = append(all, api.Triangle{V: [3]api.ScreenVertex{a, c, b}, Primitive: primitive, Front: front})
		}
	}
	return all
}

// same reports whether two lists of triangles are equal, where nil and empty lists are alike.
func same(a, b []api.Triangle) bool {
	return fmt.Sprint(a) == fmt.Sprint(b)
}

// checkScreen compares Screen with its second reading, and returns its result.
func checkScreen(t *testing.T, p api.Pipeline, tri [3]api.Vertex, primitive int) []api.Triangle {
	t.Helper()
	before := fmt.Sprint(tri)
	got, want := frontend.Screen(p, tri, primitive), expectedScreen(p, tri, primitive)
	if !same(got, want) {
		t.Fatalf("the triangle %v becomes %v, want %v", tri, got, want)
	}
	for _, u := range got {
		checkPlace(t, p, u)
	}
	// No two vertices of a result, and no vertex of the argument, share memory.
	for i, u := range frontend.Screen(p, tri, primitive) {
		for k, v := range u.V {
			for n := range v.Varyings {
				v.Varyings[n] = 1000*i + 10*k + n
			}
		}
		for k, v := range u.V {
			for n := range v.Varyings {
				if v.Varyings[n] != 1000*i+10*k+n {
					t.Fatal("two vertices share memory")
				}
			}
		}
	}
	if fmt.Sprint(tri) != before {
		t.Fatal("the argument was changed")
	}
	return got
}

// checkPlace checks that a triangle is valid and lies in the viewport.
func checkPlace(t *testing.T, p api.Pipeline, u api.Triangle) {
	t.Helper()
	v := p.Viewport
	for _, corner := range u.V {
		if corner.X < v.X*256 || corner.X > (v.X+v.Width)*256 || corner.Y < v.Y*256 || corner.Y > (v.Y+v.Height)*256 || corner.Z < v.MinDepth || corner.Z > v.MaxDepth || corner.InvW < 0 || corner.InvW > 256*one {
			t.Fatalf("the vertex %v lies outside of %v", corner, v)
		}
	}
	if !edge.Valid(u) {
		t.Fatalf("%v is not valid", u)
	}
}

func TestP44_1Screen(t *testing.T) {
	p := pipeline.Default()
	p.Viewport.Width, p.Viewport.Height = 8, 8
	left := [3]api.Vertex{vertex(-one, -one, 0, one, 1, 2), vertex(one, -one, one/2, one, 3, 4), vertex(-one, one, one, one, 5, 6)}
	want := api.Triangle{V: [3]api.ScreenVertex{{X: 0, Y: 2048, Z: 0, InvW: one, Varyings: []int{1, 2}}, {X: 0, Y: 0, Z: one, InvW: one, Varyings: []int{5, 6}}, {X: 2048, Y: 2048, Z: one / 2, InvW: one, Varyings: []int{3, 4}}}, Primitive: 7, Front: true}
	if got := checkScreen(t, p, left, 7); !same(got, []api.Triangle{want}) {
		t.Errorf("a triangle becomes %v, want %v", got, want)
	}
	right := [3]api.Vertex{left[0], left[2], left[1]}
	for _, c := range []struct {
		mode            api.CullMode
		clockwise       bool
		drawLeft, front bool
		drawRight       bool
	}{
		{api.CullNone, false, true, true, true}, {api.CullFront, false, false, true, true}, {api.CullBack, false, true, true, false}, {api.CullNone, true, true, false, true}, {api.CullFront, true, true, false, false}, {api.CullBack, true, false, false, true}, {0, false, false, true, false}, {4, false, false, true, false}, {largest, true, false, false, false},
	} {
		p.Cull, p.FrontClockwise = c.mode, c.clockwise
		a, b := checkScreen(t, p, left, largest), checkScreen(t, p, right, smallest)
		if (len(a) == 1) != c.drawLeft || (len(b) == 1) != c.drawRight {
			t.Errorf("with %+v there are %d and %d triangles", c, len(a), len(b))
		}
		for _, u := range a {
			if u.Front != c.front || u.Primitive != largest {
				t.Errorf("with %+v the triangle is %v", c, u)
			}
		}
		for _, u := range b {
			if u.Front == c.front || u.Primitive != smallest {
				t.Errorf("with %+v the other triangle is %v", c, u)
			}
		}
	}
}

func TestP44_1Clipped(t *testing.T) {
	p := pipeline.Default()
	for _, c := range []struct {
		tri  [3]api.Vertex
		want int
	}{
		{[3]api.Vertex{vertex(0, 0, 0, one), vertex(2*one, 0, 0, one), vertex(0, one, 0, one)}, 2},
		{[3]api.Vertex{vertex(0, 0, -1, one), vertex(one, 0, -1, one), vertex(0, one, -1, one)}, 0},
		{[3]api.Vertex{vertex(0, 0, 0, one), vertex(one, 0, 0, one), vertex(0, one, 0, one)}, 1},
		{[3]api.Vertex{vertex(0, 0, 0, one), vertex(one, 0, 0, one), vertex(one/2, 0, 0, one)}, 0},
		{[3]api.Vertex{vertex(0, 0, 0, one), vertex(0, 0, 0, one), vertex(0, 0, 0, one)}, 0},
		{[3]api.Vertex{vertex(-3*one, -3*one, 0, one), vertex(3*one, -3*one, 0, one), vertex(0, 4*one, 0, one)}, 2},
		{[3]api.Vertex{{}, {}, {}}, 0},
		{[3]api.Vertex{vertex(0, 0, 0, -one), vertex(one, 0, 0, -one), vertex(0, one, 0, -one)}, 0},
		// Behind the far plane and beside the other planes.
		{[3]api.Vertex{vertex(0, 0, one+1, one), vertex(one, 0, one+2, one), vertex(0, one, one+3, one)}, 0},
		{[3]api.Vertex{vertex(one+1, 0, 0, one), vertex(2*one, 0, 0, one), vertex(2*one, one, 0, one)}, 0},
	} {
		if got := checkScreen(t, p, c.tri, 3); len(got) != c.want {
			t.Errorf("the triangle %v becomes %d, want %d", c.tri, len(got), c.want)
		}
	}
	p.Viewport = api.Viewport{}
	if got := checkScreen(t, p, [3]api.Vertex{vertex(0, 0, 0, one), vertex(one, 0, 0, one), vertex(0, one, 0, one)}, 3); len(got) > 0 {
		t.Errorf("without a viewport there are the triangles %v", got)
	}
	// One that is too large would contain all of the triangle.
	p.Viewport = api.Viewport{Width: 65, Height: 64, MaxDepth: one}
	if got := checkScreen(t, p, [3]api.Vertex{vertex(0, 0, 0, one), vertex(one, 0, 0, one), vertex(0, one, 0, one)}, 3); len(got) > 0 {
		t.Errorf("with a viewport that is too large there are the triangles %v", got)
	}
}

func TestP44_4Screen(t *testing.T) {
	s := state(1)
	count := map[int]int{}
	for range 20000 {
		p := pipeline.Default()
		p.Viewport, p.Cull, p.FrontClockwise = s.viewport(), api.CullMode(1+s.next(3)), s.next(2) == 0
		count[len(checkScreen(t, p, s.triangle(s.next(4)), s.next(100)))]++
	}
	for n := range 4 {
		if count[n] < 100 {
			t.Errorf("only %d triangles become %d", count[n], n)
		}
	}
}

func TestP44_1Primitives(t *testing.T) {
	for _, c := range []struct {
		list []int
		want int
	}{{nil, 0}, {[]int{}, 0}, {[]int{0}, 1}, {[]int{5, 5, 5}, 1}, {[]int{0, 1, 0, 2, 1}, 3}, {[]int{-1, 1, largest, smallest, -1, largest}, 4}} {
		var triangles []api.Triangle
		for i, n := range c.list {
			triangles = append(triangles, api.Triangle{Primitive: n, Front: i%2 == 0, V: [3]api.ScreenVertex{{X: i}}})
		}
		before := fmt.Sprint(triangles)
		if got := frontend.Primitives(triangles); got != c.want || fmt.Sprint(triangles) != before {
			t.Errorf("%v have %d different primitives", c.list, got)
		}
	}
}

// fields returns all numbers of a triangle, in any depth.
func fields(v reflect.Value) []reflect.Value {
	var all []reflect.Value
	switch v.Kind() {
	case reflect.Int:
		return []reflect.Value{v}
	case reflect.Struct:
		for i := range v.NumField() {
			all = append(all, fields(v.Field(i))...)
		}
	case reflect.Slice, reflect.Array:
		for i := range v.Len() {
			all = append(all, fields(v.Index(i))...)
		}
	}
	return all
}

func TestP44_1EqualTriangle(t *testing.T) {
	made := func() api.Triangle {
		return api.Triangle{V: [3]api.ScreenVertex{{X: 1, Y: 2, Z: 3, InvW: 4, Varyings: []int{5, 6}}, {X: 7, Y: 8, Z: 9, InvW: 10, Varyings: []int{11}}, {}}, Primitive: 12, Front: true}
	}
	for i := range fields(reflect.ValueOf(made())) {
		for _, by := range []int64{1, -1, 1 << 32, math.MinInt64} {
			a, b := made(), made()
			if !frontend.EqualTriangle(a, b) {
				t.Fatal("a triangle is not equal to itself")
			}
			field := fields(reflect.ValueOf(&b).Elem())[i]
			field.SetInt(field.Int() + by)
			before := fmt.Sprint(a, b)
			if frontend.EqualTriangle(a, b) || frontend.EqualTriangle(b, a) || fmt.Sprint(a, b) != before {
				t.Errorf("%v and %v are equal", a, b)
			}
		}
	}
	for _, change := range []func(t *api.Triangle){
		func(t *api.Triangle) { t.Front = false }, func(t *api.Triangle) { t.V[2].Varyings = []int{0} }, func(t *api.Triangle) { t.V[0].Varyings = []int{5} }, func(t *api.Triangle) { t.V[1].Varyings = nil }, func(t *api.Triangle) { t.V[0], t.V[1] = t.V[1], t.V[0] },
	} {
		a, b := made(), made()
		change(&b)
		if frontend.EqualTriangle(a, b) || frontend.EqualTriangle(b, a) {
			t.Errorf("%v and %v are equal", a, b)
		}
	}
	empty := made()
	empty.V[2].Varyings = []int{}
	if !frontend.EqualTriangle(made(), empty) || !frontend.EqualTriangle(api.Triangle{}, api.Triangle{}) {
		t.Error("nil and empty lists are not equal")
	}
}

// shaded returns a pipeline whose shaders use the bindings, the attributes and, if asked for, a geometry stage.
func shaded(t *testing.T, geometry bool) api.Pipeline {
	t.Helper()
	p := pipeline.Default()
	p.Vertex = compile(t, "vertex; uniform k: fixed; buffer b; in a: vec3; in n: int; out o: vec4; out v: vec2; main { o = vec4(a * k, 1.0); if (n > 3) { o.w = 1.5; } v = vec2(a.x, fixed(load(b, n))); }")
	p.Fragment = compile(t, "fragment; in v: vec2; out o: vec4; main { }")
	p.Attributes = []api.Attribute{{Stride: 12, Format: api.Fixed3}, {Buffer: 1, Offset: 4, Stride: 4, Format: api.Int1}}
	if geometry {
		p.HasGeometry = true
		p.Geometry = compile(t, "geometry; uniform k: fixed; uniform d: vec4; in p: vec4; in a: vec2; in q: vec4; in b: vec2; in r: vec4; in c: vec2; out o: vec4; out z: fixed; main { o = p; z = a.x; emit; o = q; emit; o = r; emit; if (b.x > 0.0) { o = p + d; emit; if (c.x > 0.0) { cut; o = q + d; emit; o = r + d; z = c.y; emit; o = p - d; emit; } } }")
		p.Fragment = compile(t, "fragment; in v: fixed; out o: vec4; main { }")
	}
	return p
}

// numbers returns the bytes of 32-bit numbers.
func numbers(list ...int) []byte {
	var b []byte
	for _, n := range list {
		b = append(b, buffer.AppendAttribute(nil, api.Int1, []int{n})...)
	}
	return b
}

// resources returns buffers of about a number of vertices, and bindings.
func (s *state) resources(vertices int) ([][]byte, api.Bindings) {
	var positions, counts []int
	for range vertices {
		positions = append(positions, s.next(3*one)-3*one/2, s.next(3*one)-3*one/2, s.next(one+one/2)-one/4)
		counts = append(counts, s.next(7))
	}
	bindings := api.Bindings{Uniforms: []int{one/2 + s.next(one), s.next(one), s.next(one), 0, s.next(one / 4)}, Buffers: [][]byte{numbers(s.next(100), s.next(100), -s.next(100), s.next(100))}}
	return [][]byte{numbers(positions...), numbers(counts...)}, bindings
}

// indices returns indices of vertices, with some restarts.
func (s *state) indices(count, vertices int) []int {
	list := make([]int, count)
	for i := range list {
		list[i] = s.next(vertices + 1)
		if s.next(8) == 0 {
			list[i] = []int{-1, -2, smallest, largest}[s.next(4)]
		}
	}
	return list
}

// runs returns the runs of indices that are not negative.
func runs(indices []int) [][]int {
	all := [][]int{nil}
	for _, index := range indices {
		if index < 0 {
			all = append(all, nil)
		} else {
			all[len(all)-1] = append(all[len(all)-1], index)
		}
	}
	return all
}

// assembled returns the triangles of a run.
func assembled(topology api.Topology, run []int) [][3]int {
	var all [][3]int
	for i := 2; i < len(run); i++ {
		switch {
		case topology == api.TriangleFan:
			all = append(all, [3]int{run[0], run[i-1], run[i]})
		case topology == api.TriangleStrip && i%2 == 0:
			all = append(all, [3]int{run[i-2], run[i-1], run[i]})
		case topology == api.TriangleStrip:
			all = append(all, [3]int{run[i-2], run[i], run[i-1]})
		case i%3 == 2:
			all = append(all, [3]int{run[i-2], run[i-1], run[i]})
		}
	}
	return all
}

// lane returns the result of a program in one lane.
func lane(t *testing.T, p api.Program, b api.Bindings, inputs []int) api.LaneResult {
	t.Helper()
	r, code := lower.LaneOf(p, b, inputs)
	if code != api.OK {
		t.Fatalf("the test is wrong: the program has error %d", code)
	}
	return r
}

// expected is a second reading of P44.2 and P44.3, which shades the vertex of each index again.
func expected(t *testing.T, p api.Pipeline, b api.Bindings, buffers [][]byte, indices []int) ([]api.Triangle, [4]int) {
	t.Helper()
	different := map[int]bool{}
	for _, index := range indices {
		if index >= 0 {
			different[index] = true
		}
	}
	var all []api.Triangle
	statistics := [4]int{len(different)}
	for _, run := range runs(indices) {
		for _, corners := range assembled(p.Topology, run) {
			var tri [3]api.Vertex
			for i, index := range corners {
				tri[i] = vertexstage.VertexOf(lane(t, p.Vertex, b, fetch.Vertex(p.Attributes, buffers, index)).Outputs)
			}
			made := [][3]api.Vertex{tri}
			if p.HasGeometry {
				made = amplified(t, p, b, tri)
			}
			for _, tri := range made {
				all = append(all, expectedScreen(p, tri, statistics[1])...)
			}
			statistics[1]++
			statistics[2] += len(made)
		}
	}
	statistics[3] = len(all)
	return all, statistics
}

// amplified returns the triangles that the geometry stage makes of one.
func amplified(t *testing.T, p api.Pipeline, b api.Bindings, tri [3]api.Vertex) [][3]api.Vertex {
	t.Helper()
	var inputs []int
	for _, v := range tri {
		inputs = append(append(inputs, vec.List(v.Position)...), v.Varyings...)
	}
	r := lane(t, p.Geometry, b, inputs)
	var strip []int
	var made [][3]api.Vertex
	for i := range len(r.Emitted) + 1 {
		if i == len(r.Emitted) || slices.Contains(r.Cuts, i) {
			for _, corners := range assembled(api.TriangleStrip, strip) {
				made = append(made, [3]api.Vertex{vertexstage.VertexOf(r.Emitted[corners[0]]), vertexstage.VertexOf(r.Emitted[corners[1]]), vertexstage.VertexOf(r.Emitted[corners[2]])})
			}
			strip = nil
		}
		strip = append(strip, i)
	}
	return made
}

// check compares Triangles and Statistics with their second readings.
func check(t *testing.T, p api.Pipeline, b api.Bindings, buffers [][]byte, indices []int) [4]int {
	t.Helper()
	before := fmt.Sprint(p, b, buffers, indices)
	want, numbers := expected(t, p, b, buffers, indices)
	got, code := frontend.Triangles(p, b, buffers, indices)
	if code != api.OK || !same(got, want) || !slices.EqualFunc(got, want, frontend.EqualTriangle) {
		t.Fatalf("the triangles of %v are %v, error %d, want %v", indices, got, code, want)
	}
	for _, u := range got {
		checkPlace(t, p, u)
		for _, v := range u.V {
			for i := range v.Varyings {
				v.Varyings[i] = -77
			}
		}
	}
	if again, _ := frontend.Triangles(p, b, buffers, indices); !same(again, want) || fmt.Sprint(p, b, buffers, indices) != before {
		t.Fatal("the arguments were changed")
	}
	statistics, code := frontend.Statistics(p, b, buffers, indices)
	if code != api.OK || statistics != numbers || fmt.Sprint(p, b, buffers, indices) != before {
		t.Fatalf("the statistics of %v are %v, error %d, want %v", indices, statistics, code, numbers)
	}
	return statistics
}

func TestP44_2Default(t *testing.T) {
	p := pipeline.Default()
	vertices := numbers(-one, -one, 0, one, one, -one, 0, one, -one, one, 0, one, one, one, one, one)
	for _, c := range []struct {
		topology api.Topology
		indices  []int
		want     [4]int
	}{
		{api.TriangleList, []int{0, 1, 2}, [4]int{3, 1, 1, 1}}, {api.TriangleList, []int{0, 1, 2, 2, 1, 3}, [4]int{4, 2, 2, 2}}, {api.TriangleStrip, []int{0, 1, 2, 3}, [4]int{4, 2, 2, 2}}, {api.TriangleFan, []int{0, 1, 3, 2}, [4]int{4, 2, 2, 2}}, {api.TriangleList, nil, [4]int{}}, {api.TriangleList, []int{0, 1}, [4]int{2, 0, 0, 0}}, {api.TriangleStrip, []int{0, 1, -1, 2, 3}, [4]int{4, 0, 0, 0}}, {api.TriangleList, []int{-1, -1}, [4]int{}},
		// Triangles without an area are only omitted on the screen, and vertices that do not exist are the zero vector.
		{api.TriangleList, []int{0, 0, 1}, [4]int{2, 1, 1, 0}}, {api.TriangleList, []int{4, 5, 6}, [4]int{3, 1, 1, 0}}, {api.TriangleList, []int{0, 1, 99, 3, 2, 1}, [4]int{5, 2, 2, 1}},
	} {
		p.Topology = c.topology
		if got := check(t, p, api.Bindings{}, [][]byte{vertices}, c.indices); got != c.want {
			t.Errorf("the statistics of %v are %v, want %v", c.indices, got, c.want)
		}
	}
	p.Topology = api.TriangleStrip
	got, _ := frontend.Triangles(p, api.Bindings{}, [][]byte{vertices}, []int{0, 1, 2, 3})
	for i, u := range got {
		if u.Primitive != i || !u.Front {
			t.Errorf("triangle %d is %v", i, u)
		}
	}
	if got := check(t, p, api.Bindings{}, nil, []int{0, 1, 2}); got != [4]int{3, 1, 1, 0} {
		t.Errorf("without buffers the statistics are %v", got)
	}
}

// TestP44_2Example draws arbitrary triangles inside the clipping planes.
func TestP44_2Example(t *testing.T) {
	s := state(2)
	p := pipeline.Default()
	for range 2000 {
		var list []int
		for range 3 {
			list = append(list, s.next(2*one+1)-one, s.next(2*one+1)-one, s.next(one+1), one)
		}
		screen := func(i int) (int, int) {
			// The viewport has 64*256 units for 2*One.
			return (list[4*i] + one + 4) / 8, (one - list[4*i+1] + 4) / 8
		}
		ax, ay := screen(0)
		bx, by := screen(1)
		cx, cy := screen(2)
		want := 1
		if (bx-ax)*(cy-ay) == (by-ay)*(cx-ax) {
			want = 0
		}
		got := check(t, p, api.Bindings{}, [][]byte{numbers(list...)}, []int{0, 1, 2})
		if got != [4]int{3, 1, 1, want} {
			t.Errorf("the statistics of %v are %v, want %d triangles", list, got, want)
		}
	}
}

func TestP44_2Arbitrary(t *testing.T) {
	s := state(3)
	amplified, clipped := 0, 0
	for i := range 1500 {
		p := shaded(t, i%2 == 0)
		p.Topology, p.Cull, p.FrontClockwise, p.Viewport = api.Topology(1+s.next(3)), api.CullMode(1+s.next(3)), s.next(2) == 0, s.viewport()
		buffers, b := s.resources(1 + s.next(12))
		got := check(t, p, b, buffers, s.indices(s.next(25), 12))
		if got[2] > got[1] {
			amplified++
		}
		if got[3] > got[2] {
			clipped++
		}
	}
	if amplified < 100 || clipped < 100 {
		t.Errorf("only %d draws are amplified, and %d clipped", amplified, clipped)
	}
}

// TestP44_2Many draws as many indices as there may be.
func TestP44_2Many(t *testing.T) {
	s := state(4)
	for _, geometry := range []bool{false, true} {
		p := shaded(t, geometry)
		p.Topology = api.TriangleStrip
		buffers, b := s.resources(100)
		for _, count := range []int{15, 16, 17, 1023, 1024} {
			indices := make([]int, count)
			for i := range indices {
				indices[i] = s.next(100)
			}
			if got := check(t, p, b, buffers, indices); got[1] != count-2 {
				t.Errorf("%d indices have %d triangles", count, got[1])
			}
		}
		for _, count := range []int{1025, 5000} {
			checkError(t, p, b, buffers, make([]int, count), api.ErrTooLong)
			checkError(t, p, b, buffers, slices.Repeat([]int{-1}, count), api.ErrTooLong)
		}
	}
}

// checkError checks that a draw has an error, and no results.
func checkError(t *testing.T, p api.Pipeline, b api.Bindings, buffers [][]byte, indices []int, want api.Errno) {
	t.Helper()
	if got, code := frontend.Triangles(p, b, buffers, indices); code != want || len(got) > 0 {
		t.Errorf("the triangles are %v, error %d, want %d", got, code, want)
	}
	if got, code := frontend.Statistics(p, b, buffers, indices); code != want || got != [4]int{} {
		t.Errorf("the statistics are %v, error %d, want %d", got, code, want)
	}
}

func TestP44_2Errors(t *testing.T) {
	s := state(5)
	buffers, b := s.resources(3)
	for _, change := range []func(p *api.Pipeline){
		func(p *api.Pipeline) { *p = api.Pipeline{} }, func(p *api.Pipeline) { p.Vertex = api.Program{} }, func(p *api.Pipeline) { p.Attributes = nil }, func(p *api.Pipeline) { p.Fragment.Inputs = 7 }, func(p *api.Pipeline) { p.Topology = 4 }, func(p *api.Pipeline) { p.Cull = 0 }, func(p *api.Pipeline) { p.Viewport.Width = 0 }, func(p *api.Pipeline) { p.Depth.Compare = 0 }, func(p *api.Pipeline) { p.Format = 0 }, func(p *api.Pipeline) { p.Samples = 3 }, func(p *api.Pipeline) { p.HasGeometry = !p.HasGeometry },
	} {
		for _, geometry := range []bool{false, true} {
			p := shaded(t, geometry)
			change(&p)
			for _, count := range []int{0, 3, 1024, 1025} {
				checkError(t, p, b, buffers, make([]int, count), api.ErrPipeline)
			}
		}
	}
}

func TestP44_3Indices(t *testing.T) {
	data := []byte{5, 255, 7, 0, 255, 255, 255, 255, 9}
	for _, c := range []struct {
		t            api.IndexType
		first, count int
		want         []int
	}{
		{api.Index8, 0, 3, []int{5, -1, 7}}, {api.Index16, 1, 3, []int{7, -1, -1}}, {api.Index32, 0, 3, []int{524037, -1, 0}}, {api.NoIndex, 3, 3, []int{3, 4, 5}}, {api.Index8, 8, 2, []int{9, 0}}, {api.Index8, -5, 2, []int{5, -1}}, {api.Index8, 0, -1, nil}, {api.NoIndex, largest, 2, []int{65536, 65537}}, {0, 0, 3, nil}, {5, 0, 3, nil}, {largest, 0, 3, nil},
	} {
		got := frontend.Indices(data, c.t, c.first, c.count)
		if !slices.Equal(got, c.want) || !slices.Equal(data, []byte{5, 255, 7, 0, 255, 255, 255, 255, 9}) {
			t.Errorf("Indices(%d, %d, %d) are %v, want %v", c.t, c.first, c.count, got, c.want)
		}
	}
	s := state(6)
	for range 2000 {
		data := make([]byte, s.next(20))
		for i := range data {
			data[i] = []byte{0, 1, 254, 255}[s.next(4)]
		}
		kind, first, count := api.IndexType(s.next(6)), s.next(20)-3, s.next(20)-3
		if got, want := frontend.Indices(data, kind, first, count), fetch.Indices(data, kind, first, count); !slices.Equal(got, want) {
			t.Errorf("Indices(%v, %d, %d, %d) are %v, want %v", data, kind, first, count, got, want)
		}
	}
	if got := frontend.Indices(nil, api.NoIndex, 0, largest); len(got) != 1024 {
		t.Errorf("there are %d indices", len(got))
	}
}
