package geometrystage_test

import (
	"fmt"
	"math"
	"slices"
	"testing"

	"frustum/api"
	"frustum/compiler"
	"frustum/geometrystage"
	"frustum/lower"
)

const (
	one  = api.One
	most = api.MaxValue
)

// compile returns the program of a geometry shader, given by its declarations and statements.
func compile(t *testing.T, text string) api.Program {
	t.Helper()
	p, line, code := compiler.Compile("shader geometry; "+text, 256)
	if code != api.OK {
		t.Fatalf("the test is wrong: %s has error %d in line %d", text, code, line)
	}
	return p
}

// vertex returns a vertex with a position and varyings.
func vertex(x, y, z, w int, varyings ...int) api.Vertex {
	return api.Vertex{Position: api.Vec4{X: x, Y: y, Z: z, W: w}, Varyings: varyings}
}

// numbered returns so many lists of outputs, which differ in their first one.
func numbered(count int) [][]int {
	lists := make([][]int, count)
	for i := range lists {
		lists[i] = []int{i, 1, 2, 3, 4 + i}
	}
	return lists
}

// state makes arbitrary numbers.
type state uint64

func (s *state) next(beyond int) int {
	*s = *s*6364136223846793005 + 1442695040888963407
	return int(*s>>33) % beyond
}

// number returns an arbitrary number of any magnitude.
func (s *state) number() int {
	*s = *s*6364136223846793005 + 1442695040888963407
	return int(*s) >> (*s >> 17 % 64)
}

func (s *state) numbers(count int) []int {
	list := make([]int, count)
	for i := range list {
		list[i] = s.number()
	}
	return list
}

// expectedVertex returns the vertex with outputs.
func expectedVertex(outputs []int) api.Vertex {
	list := make([]int, max(4, len(outputs)))
	for i, x := range outputs {
		list[i] = min(max(x, -most), most)
	}
	return vertex(list[0], list[1], list[2], list[3], list[4:]...)
}

// expectedStrips assigns each vertex to a strip, which begins behind the greatest cut that counts.
func expectedStrips(r api.LaneResult) [][]api.Vertex {
	begins := map[int]bool{0: true}
	last := 0
	for _, c := range r.Cuts {
		if c >= 1 && c > last && c <= len(r.Emitted)-1 {
			begins[c] = true
			last = c
		}
	}
	var strips [][]api.Vertex
	for i, outputs := range r.Emitted {
		if begins[i] {
			strips = append(strips, nil)
		}
		strips[len(strips)-1] = append(strips[len(strips)-1], expectedVertex(outputs))
	}
	return strips
}

// expectedTriangles returns the triangles of strips; in each second one the last two vertices are exchanged.
func expectedTriangles(strips [][]api.Vertex) [][3]api.Vertex {
	var triangles [][3]api.Vertex
	for _, strip := range strips {
		for i := 2; i < len(strip); i++ {
			tri := [3]api.Vertex{strip[i-2], strip[i-1], strip[i]}
			if i%2 == 1 {
				tri[1], tri[2] = tri[2], tri[1]
			}
			triangles = append(triangles, tri)
		}
	}
	return triangles
}

// checkResult compares Strips, Expand and Amplification of a result with their second readings.
func checkResult(t *testing.T, r api.LaneResult) {
	t.Helper()
	text := fmt.Sprint(r)
	strips := expectedStrips(r)
	triangles := expectedTriangles(strips)
	if got := geometrystage.Strips(r); fmt.Sprint(got) != fmt.Sprint(strips) {
		t.Errorf("the strips of %v are %v, want %v", r, got, strips)
	}
	if got := geometrystage.Expand(r); fmt.Sprint(got) != fmt.Sprint(triangles) {
		t.Errorf("the triangles of %v are %v, want %v", r, got, triangles)
	}
	if got := geometrystage.Amplification([]api.LaneResult{r, {}, r}); got != 2*len(triangles) {
		t.Errorf("%v twice has %d triangles, want %d", r, got, 2*len(triangles))
	}
	if fmt.Sprint(r) != text {
		t.Error("the result was changed")
	}
}

func TestP30_1Flatten(t *testing.T) {
	for _, c := range []struct {
		tri  [3]api.Vertex
		want []int
	}{
		{[3]api.Vertex{}, make([]int, 12)}, {[3]api.Vertex{vertex(1, 2, 3, 4), vertex(5, 6, 7, 8), vertex(9, 10, 11, 12)}, []int{1, 2, 3, 4, 5, 6, 7, 8, 9, 10, 11, 12}}, {[3]api.Vertex{vertex(1, 2, 3, 4, 5, 6), vertex(7, 8, 9, 10, 11, 12), vertex(13, 14, 15, 16, 17, 18)}, []int{1, 2, 3, 4, 5, 6, 7, 8, 9, 10, 11, 12, 13, 14, 15, 16, 17, 18}},
		// Vertices with different numbers of varyings, and numbers that are not saturated.
		{[3]api.Vertex{vertex(1, 2, 3, 4, 5), vertex(6, 7, 8, 9), vertex(10, 11, 12, 13, 14, 15, 16)}, []int{1, 2, 3, 4, 5, 6, 7, 8, 9, 10, 11, 12, 13, 14, 15, 16}}, {[3]api.Vertex{vertex(math.MaxInt, math.MinInt, most+1, -most-1, math.MinInt), {}, vertex(0, 0, 0, 0, math.MaxInt)}, []int{math.MaxInt, math.MinInt, most + 1, -most - 1, math.MinInt, 0, 0, 0, 0, 0, 0, 0, 0, math.MaxInt}},
	} {
		text := fmt.Sprint(c.tri)
		got := geometrystage.Flatten(c.tri)
		if !slices.Equal(got, c.want) {
			t.Errorf("the inputs of %v are %v, want %v", c.tri, got, c.want)
		}
		clear(got[:cap(got)])
		if fmt.Sprint(c.tri) != text {
			t.Error("the inputs share memory with the triangle")
		}
	}
}

func TestP30_1Strips(t *testing.T) {
	for _, c := range []struct {
		count   int
		cuts    []int
		lengths []int
	}{
		{0, nil, nil}, {0, []int{0, 1, -1}, nil}, {1, nil, []int{1}}, {1, []int{0}, []int{1}}, {1, []int{1}, []int{1}}, {4, []int{3}, []int{3, 1}}, {4, nil, []int{4}}, {4, []int{}, []int{4}}, {4, []int{1, 2, 3}, []int{1, 1, 1, 1}}, {4, []int{4}, []int{4}}, {4, []int{5, 2}, []int{2, 2}}, {6, []int{3, 3}, []int{3, 3}}, {6, []int{3, 2, 5}, []int{3, 2, 1}}, {6, []int{0, 3}, []int{3, 3}}, {6, []int{-1, 3, -1, 4}, []int{3, 1, 2}}, {6, []int{math.MinInt, math.MaxInt, 5}, []int{5, 1}}, {6, []int{5, 4, 3, 2, 1}, []int{5, 1}}, {6, []int{6, 7, 1}, []int{1, 5}}, {12, []int{3, 6, 9, 12}, []int{3, 3, 3, 3}}, {13, []int{12}, []int{12, 1}}, {2, []int{1 << 32, 1<<32 + 1}, []int{2}},
	} {
		r := api.LaneResult{Outputs: []int{99}, Emitted: numbered(c.count), Cuts: c.cuts}
		checkResult(t, r)
		next := 0
		strips := geometrystage.Strips(r)
		if len(strips) != len(c.lengths) {
			t.Errorf("%d vertices with the cuts %v have %d strips, want %d", c.count, c.cuts, len(strips), len(c.lengths))
			continue
		}
		for i, strip := range strips {
			if len(strip) != c.lengths[i] {
				t.Errorf("strip %d of %d vertices with the cuts %v has %d, want %d", i, c.count, c.cuts, len(strip), c.lengths[i])
			}
			for _, v := range strip {
				if fmt.Sprint(v) != fmt.Sprint(vertex(next, 1, 2, 3, 4+next)) {
					t.Errorf("vertex %d is %v", next, v)
				}
				next++
			}
		}
	}
	// Outputs with fewer than four components, and beyond the saturated numbers.
	checkResult(t, api.LaneResult{Emitted: [][]int{nil, {1}, {1, 2, 3}, {1, 2, 3, 4}, {math.MaxInt, math.MinInt, most, -most - 1, math.MaxInt}, {}}, Cuts: []int{3}})
	checkResult(t, api.LaneResult{Discarded: true, Emitted: numbered(5), Cuts: []int{2}})
}

func TestP30_2Expand(t *testing.T) {
	for _, c := range []struct {
		count int
		cuts  []int
		want  [][3]int
	}{
		{0, nil, nil}, {1, nil, nil}, {2, nil, nil}, {3, nil, [][3]int{{0, 1, 2}}}, {4, []int{3}, [][3]int{{0, 1, 2}}}, {4, nil, [][3]int{{0, 1, 2}, {1, 3, 2}}}, {5, nil, [][3]int{{0, 1, 2}, {1, 3, 2}, {2, 3, 4}}}, {6, []int{3}, [][3]int{{0, 1, 2}, {3, 4, 5}}}, {7, []int{3}, [][3]int{{0, 1, 2}, {3, 4, 5}, {4, 6, 5}}}, {7, []int{2, 4}, [][3]int{{4, 5, 6}}}, {6, []int{1, 2, 3}, [][3]int{{3, 4, 5}}}, {6, []int{2, 4}, nil},
	} {
		r := api.LaneResult{Emitted: numbered(c.count), Cuts: c.cuts}
		checkResult(t, r)
		var got [][3]int
		for _, tri := range geometrystage.Expand(r) {
			got = append(got, [3]int{tri[0].Position.X, tri[1].Position.X, tri[2].Position.X})
		}
		if !slices.Equal(got, c.want) {
			t.Errorf("the triangles of %d vertices with the cuts %v are %v, want %v", c.count, c.cuts, got, c.want)
		}
	}
}

func TestP30_2Amplification(t *testing.T) {
	of := func(count int, cuts ...int) api.LaneResult {
		return api.LaneResult{Emitted: numbered(count), Cuts: cuts}
	}
	for _, c := range []struct {
		results []api.LaneResult
		want    int
	}{
		{nil, 0}, {[]api.LaneResult{}, 0}, {[]api.LaneResult{{}, {}}, 0}, {[]api.LaneResult{of(3)}, 1}, {[]api.LaneResult{of(12)}, 10}, {[]api.LaneResult{of(4, 3), of(2), of(6, 3), of(5)}, 6}, {slices.Repeat([]api.LaneResult{of(12, 1)}, 2000), 18000}, {[]api.LaneResult{of(5000)}, 4998},
	} {
		text := fmt.Sprint(c.results)
		if got := geometrystage.Amplification(c.results); got != c.want || fmt.Sprint(c.results) != text {
			t.Errorf("%d results have %d triangles, want %d", len(c.results), got, c.want)
		}
	}
}

func TestP30_2Arbitrary(t *testing.T) {
	s := state(1)
	for range 3000 {
		r := api.LaneResult{Outputs: s.numbers(3)}
		for range s.next(15) {
			r.Emitted = append(r.Emitted, s.numbers(s.next(8)))
		}
		for range s.next(6) {
			r.Cuts = append(r.Cuts, s.next(18)-2)
		}
		checkResult(t, r)
	}
}

// Declarations of geometry shaders for triangles whose vertices have one varying.
const inputs = "in p0: vec4; in n0: int; in p1: vec4; in n1: int; in p2: vec4; in n2: int; out p: vec4; out n: int; "

// shaders are texts of geometry shaders.
var shaders = []string{
	"out p: vec4; main { }", "out p: vec4; main { emit; emit; emit; }", inputs + "main { p = p0; n = n0; emit; p = p1; n = n1; emit; p = p2; n = n2; emit; }", inputs + "main { loop 16 { p = p + p0; n = n + n1; emit; } }",
	"uniform u: vec4; " + inputs + "main { p = p0 + u; loop 5 { if (n > n0) { break; } emit; p = p * 2.0; n = n + 1; emit; if (n == n1) { cut; } } cut; cut; p = p2; emit; if (n2 > 0) { emit; emit; n = n2; emit; } }", inputs + "main { if (n0 > n1) { loop 4 { emit; emit; emit; cut; } } else { p = p1; loop 3 { p.x = p.x + 0.5; emit; emit; cut; emit; } } }",
}

func bindings() api.Bindings {
	return api.Bindings{Uniforms: []int{one, 2 * one, -5, 1 << 40}}
}

// triangles returns arbitrary triangles with one varying, of which some lack it.
func (s *state) triangles(count int) [][3]api.Vertex {
	list := make([][3]api.Vertex, count)
	for i := range list {
		for k := range 3 {
			list[i][k] = vertex(s.next(4*one), s.number(), s.next(one), s.number(), s.next(7)-2)
		}
		if s.next(20) == 0 {
			list[i][2].Varyings = nil
		}
	}
	return list
}

// checkProcess compares the triangles of a program with those of each invocation alone.
func checkProcess(t *testing.T, p api.Program, list [][3]api.Vertex) int {
	t.Helper()
	text := fmt.Sprint(list)
	var want [][3]api.Vertex
	var origins []int
	for i, tri := range list[:min(len(list), 1024)] {
		var flat []int
		for _, v := range tri {
			flat = append(append(flat, v.Position.X, v.Position.Y, v.Position.Z, v.Position.W), v.Varyings...)
		}
		r, _ := lower.LaneOf(p, bindings(), flat)
		made := expectedTriangles(expectedStrips(r))
		if len(made) > 10 {
			t.Errorf("an invocation makes %d triangles", len(made))
		}
		want = append(want, made...)
		origins = append(origins, slices.Repeat([]int{i}, len(made))...)
	}
	got, from, code := geometrystage.Process(p, bindings(), list)
	if code != api.OK || fmt.Sprint(got) != fmt.Sprint(want) || !slices.Equal(from, origins) {
		t.Fatalf("of %d triangles the program makes %d, error %d, want %d", len(list), len(got), code, len(want))
	}
	if fmt.Sprint(list) != text {
		t.Error("Process changed its arguments")
	}
	return len(got)
}

func TestP30_3Process(t *testing.T) {
	s := state(2)
	for i, text := range shaders {
		p, made := compile(t, text), 0
		for _, count := range []int{0, 1, 2, 15, 16, 17, 100} {
			made += checkProcess(t, p, s.triangles(count))
		}
		if want := min(1, i); made < want*150 {
			t.Errorf("%s makes %d triangles only", text, made)
		}
	}
	for _, count := range []int{1023, 1024, 1025, 1100} {
		if made := checkProcess(t, compile(t, shaders[2]), s.triangles(count)); made != min(count, 1024) {
			t.Errorf("of %d triangles there are %d left", count, made)
		}
	}
	for _, list := range [][][3]api.Vertex{nil, {}} {
		if got, origins, code := geometrystage.Process(compile(t, shaders[2]), bindings(), list); code != api.OK || len(got) > 0 || len(origins) > 0 {
			t.Errorf("of no triangles the program makes %v, error %d", got, code)
		}
	}
	// The most triangles that an invocation can make, and the program with the fewest outputs.
	if made := checkProcess(t, compile(t, shaders[3]), s.triangles(3)); made != 30 {
		t.Errorf("three invocations make %d triangles", made)
	}
	if made := checkProcess(t, api.Program{Stage: 2, Outputs: 4, Code: slices.Repeat([]api.Instr{{Op: api.Emit}}, 3)}, s.triangles(2)); made != 2 {
		t.Errorf("two invocations make %d triangles", made)
	}
}

func TestP30_3Errors(t *testing.T) {
	good := compile(t, shaders[2])
	change := func(f func(p *api.Program)) api.Program {
		p := good
		p.Code = slices.Clone(p.Code)
		f(&p)
		return p
	}
	s := state(3)
	for i, p := range []api.Program{
		{}, {Stage: 2}, {Stage: 2, Outputs: 3}, {Stage: 2, Outputs: -1}, {Stage: 2, Outputs: math.MinInt}, {Stage: 2, Outputs: 33}, {Stage: 2, Outputs: math.MaxInt}, {Stage: 1, Outputs: 4}, {Stage: 3, Outputs: 4}, {Stage: 4, Outputs: 4}, {Outputs: 4}, compile(t, "out p: vec3; main { emit; emit; emit; }"), compile(t, "main { emit; emit; emit; }"),
		change(func(p *api.Program) { p.Stage = 1 }), change(func(p *api.Program) { p.Registers = 1 }), change(func(p *api.Program) { p.Code[0].Op = 53 }), change(func(p *api.Program) { p.Code = append(p.Code, api.Instr{Op: api.EndIf}) }), change(func(p *api.Program) { p.Inputs = 14 }),
	} {
		for _, count := range []int{0, 1, 1025} {
			if got, origins, code := geometrystage.Process(p, bindings(), s.triangles(count)); code != api.ErrShader || got != nil || origins != nil {
				t.Errorf("the wrong program %d makes %d triangles, error %d", i, len(got), code)
			}
		}
	}
}

// TestP30_4Most has results of the machine with as many vertices as there can be.
func TestP30_4Most(t *testing.T) {
	for text, want := range map[string]int{"emit;": 10, "emit; cut;": 0, "emit; emit; emit; cut;": 4, "emit; emit; emit; emit; cut;": 6} {
		p := compile(t, "out p: vec4; main { loop 16 { "+text+" } }")
		r, _ := lower.LaneOf(p, api.Bindings{}, nil)
		if got := geometrystage.Amplification([]api.LaneResult{r}); got != want || len(r.Emitted) != api.MaxEmit {
			t.Errorf("%s makes %d triangles of %d vertices, want %d", text, got, len(r.Emitted), want)
		}
	}
}

// TestP30_1Memory changes results, which share no memory.
func TestP30_1Memory(t *testing.T) {
	r := api.LaneResult{Emitted: numbered(6), Cuts: []int{4}}
	text := fmt.Sprint(r, geometrystage.Strips(r), geometrystage.Expand(r))
	for _, strip := range geometrystage.Strips(r) {
		for _, v := range strip {
			clear(v.Varyings[:cap(v.Varyings)])
		}
		clear(strip[:cap(strip)])
	}
	for range 2 {
		triangles := geometrystage.Expand(r)
		for i, tri := range triangles {
			for k, v := range tri {
				if v.Varyings[0] != v.Position.X+4 {
					t.Errorf("vertex %d of triangle %d shares memory with another one: %v", k, i, v)
				}
				clear(v.Varyings[:cap(v.Varyings)])
			}
		}
		clear(triangles[:cap(triangles)])
	}
	if fmt.Sprint(r, geometrystage.Strips(r), geometrystage.Expand(r)) != text {
		t.Error("results share memory")
	}
	s := state(5)
	list := s.triangles(3)
	text = fmt.Sprint(list)
	made, origins, _ := geometrystage.Process(compile(t, shaders[3]), bindings(), list)
	for _, tri := range made {
		for _, v := range tri {
			clear(v.Varyings[:cap(v.Varyings)])
		}
	}
	clear(origins[:cap(origins)])
	if again, from, _ := geometrystage.Process(compile(t, shaders[3]), bindings(), list); fmt.Sprint(list) != text || fmt.Sprint(again) == fmt.Sprint(made) || from[29] != 2 {
		t.Error("the results of Process share memory")
	}
}
