package vertexstage_test

import (
	"fmt"
	"math"
	"slices"
	"strings"
	"testing"

	"frustum/api"
	"frustum/buffer"
	"frustum/compiler"
	"frustum/fetch"
	"frustum/lower"
	"frustum/vertexstage"
)

const (
	one  = api.One
	most = api.MaxValue
)

// compile returns the program of a vertex shader, given by its declarations and statements.
func compile(t *testing.T, text string) api.Program {
	t.Helper()
	p, line, code := compiler.Compile("shader vertex; "+text, 256)
	if code != api.OK {
		t.Fatalf("the test is wrong: %s has error %d in line %d", text, code, line)
	}
	return p
}

// vertex returns a vertex with a position and varyings.
func vertex(x, y, z, w int, varyings ...int) api.Vertex {
	return api.Vertex{Position: api.Vec4{X: x, Y: y, Z: z, W: w}, Varyings: varyings}
}

// state makes arbitrary numbers.
type state uint64

func (s *state) next(beyond int) int {
	*s = *s*6364136223846793005 + 1442695040888963407
	return int(*s>>33) % beyond
}

// number returns an arbitrary number of any magnitude.
func (s *state) number() int {
	*s = *s*6364136223846793005 + 1442695040888963407
	return int(*s) >> (*s >> 17 % 64)
}

func (s *state) numbers(count int) []int {
	list := make([]int, count)
	for i := range list {
		list[i] = s.number()
	}
	return list
}

// limited returns a number limited to those that are saturated.
func limited(x int) int {
	return min(max(x, -most), most)
}

// expectedVertex returns the vertex with outputs, one after the other.
func expectedVertex(outputs []int) api.Vertex {
	v := api.Vertex{}
	for i, x := range outputs {
		switch i {
		case 0:
			v.Position.X = limited(x)
		case 1:
			v.Position.Y = limited(x)
		case 2:
			v.Position.Z = limited(x)
		case 3:
			v.Position.W = limited(x)
		default:
			v.Varyings = append(v.Varyings, limited(x))
		}
	}
	return v
}

func same(a, b api.Vertex) bool {
	return a.Position == b.Position && slices.Equal(a.Varyings, b.Varyings)
}

func TestP29_1VertexOf(t *testing.T) {
	for _, c := range []struct {
		outputs []int
		want    api.Vertex
	}{
		{nil, vertex(0, 0, 0, 0)}, {[]int{}, vertex(0, 0, 0, 0)}, {[]int{1}, vertex(1, 0, 0, 0)}, {[]int{1, 2}, vertex(1, 2, 0, 0)}, {[]int{1, 2, 3}, vertex(1, 2, 3, 0)}, {[]int{1, 2, 3, 4}, vertex(1, 2, 3, 4)}, {[]int{1, 2, 3, 4, 5}, vertex(1, 2, 3, 4, 5)}, {[]int{1, 2, 3, 4, 5, 6, 7}, vertex(1, 2, 3, 4, 5, 6, 7)},
		{[]int{most, most + 1, -most, -most - 1, most, most + 1, -most, -most - 1}, vertex(most, most, -most, -most, most, most, -most, -most)}, {[]int{math.MaxInt, math.MinInt, 1 << 32, -1 << 32, math.MinInt, math.MaxInt}, vertex(most, -most, most, -most, -most, most)},
	} {
		before := slices.Clone(c.outputs)
		got := vertexstage.VertexOf(c.outputs)
		if !same(got, c.want) || !slices.Equal(before, c.outputs) {
			t.Errorf("the vertex of %v is %v, want %v", c.outputs, got, c.want)
		}
	}
	s := state(1)
	for range 1000 {
		list := s.numbers(s.next(40))
		if got, want := vertexstage.VertexOf(list), expectedVertex(list); !same(got, want) {
			t.Errorf("the vertex of %v is %v, want %v", list, got, want)
		}
	}
}

func TestP29_1Equal(t *testing.T) {
	v := vertex(1, 2, 3, 4, 5, 6)
	for _, c := range []struct {
		a, b api.Vertex
		want bool
	}{
		{v, vertex(1, 2, 3, 4, 5, 6), true}, {v, v, true}, {api.Vertex{}, api.Vertex{Varyings: []int{}}, true}, {v, vertex(0, 2, 3, 4, 5, 6), false}, {v, vertex(1, 0, 3, 4, 5, 6), false}, {v, vertex(1, 2, 0, 4, 5, 6), false}, {v, vertex(1, 2, 3, 0, 5, 6), false}, {v, vertex(1, 2, 3, 4, 0, 6), false}, {v, vertex(1, 2, 3, 4, 5, 0), false}, {v, vertex(1, 2, 3, 4, 5), false}, {v, vertex(1, 2, 3, 4), false}, {v, vertex(1, 2, 3, 4, 5, 6, 0), false}, {vertex(0, 0, 0, 0), vertex(0, 0, 0, 0, 0), false},
		// Vertices are compared as they are, without saturation.
		{vertex(math.MaxInt, 0, 0, 0), vertex(most, 0, 0, 0), false}, {vertex(math.MinInt, 0, 0, 0, math.MaxInt), vertex(math.MinInt, 0, 0, 0, math.MaxInt), true}, {vertex(0, 0, 0, 0, math.MaxInt), vertex(0, 0, 0, 0, most), false},
	} {
		if got := vertexstage.Equal(c.a, c.b); got != c.want {
			t.Errorf("Equal of %v and %v is %t", c.a, c.b, got)
		}
		if got := vertexstage.Equal(c.b, c.a); got != c.want {
			t.Errorf("Equal of %v and %v is %t", c.b, c.a, got)
		}
	}
}

// shaders are texts of vertex shaders; the inputs of those from index 2 on are 5 components.
var shaders = []string{
	"out o: vec4; main { }", "out o: vec4; out p: int; main { o = vec4(1.0, 2.0, 3.0, 4.0); p = 2147483647; }", "in a: vec4; in n: int; out o: vec4; main { o = a; }", "in a: vec4; in n: int; out o: vec4; out p: int; out q: vec2; main { o = a * 2.0; p = n * n; q = vec2(a.x, a.w); }",
	"uniform u: vec4; buffer b; in a: vec3; in i: vec2; out p: int; out o: vec4; out q: bool; main { loop 5 { if (a.x < i.y) { break; } o = o + u; p = p + 1; } if (i.x > 0.0) { p = load(b, p); } q = a.z == 1.0; }",
}

func bindings() api.Bindings {
	return api.Bindings{Uniforms: []int{one, 2 * one, -5, 1 << 40}, Buffers: [][]byte{{1, 2, 3, 4, 5, 6, 7, 248}}}
}

func TestP29_2Shade(t *testing.T) {
	s := state(2)
	for _, text := range shaders {
		p := compile(t, text)
		for _, count := range []int{0, 1, 2, 15, 16, 17, 33, 1023, 1024, 1025, 1500} {
			inputs := make([][]int, count)
			for i := range inputs {
				inputs[i] = s.numbers(s.next(7))
			}
			before := fmt.Sprint(inputs)
			got, code := vertexstage.Shade(p, bindings(), inputs)
			if code != api.OK || len(got) != min(count, 1024) {
				t.Fatalf("of %d lists, %s makes %d vertices, error %d", count, text, len(got), code)
			}
			for i, v := range got {
				result, _ := lower.LaneOf(p, bindings(), inputs[i])
				if want := expectedVertex(result.Outputs); !same(v, want) {
					t.Fatalf("of %v, %s makes %v, want %v", inputs[i], text, v, want)
				}
			}
			if fmt.Sprint(inputs) != before {
				t.Error("Shade changed its arguments")
			}
		}
	}
	for _, inputs := range [][][]int{nil, {}} {
		if got, code := vertexstage.Shade(compile(t, shaders[1]), api.Bindings{}, inputs); code != api.OK || len(got) > 0 {
			t.Errorf("of no lists, the vertices are %v, error %d", got, code)
		}
	}
	// An output of an int beyond the saturated numbers is saturated.
	if got, code := vertexstage.Shade(compile(t, shaders[1]), api.Bindings{}, make([][]int, 1)); code != api.OK || !same(got[0], vertex(one, 2*one, 3*one, 4*one, most)) {
		t.Errorf("the vertices are %v, error %d", got, code)
	}
}

// wrongPrograms returns programs that are not valid, of other stages, or with too few outputs.
func wrongPrograms(t *testing.T) []api.Program {
	good := compile(t, "in a: vec4; out o: vec4; main { o = a; }")
	change := func(f func(p *api.Program)) api.Program {
		p := good
		p.Code = slices.Clone(p.Code)
		f(&p)
		return p
	}
	return []api.Program{
		{}, {Stage: 1}, change(func(p *api.Program) { p.Stage = 2 }), change(func(p *api.Program) { p.Stage = 3 }), change(func(p *api.Program) { p.Stage = 0 }), change(func(p *api.Program) { p.Stage = 4 }), change(func(p *api.Program) { p.Registers = 0 }), change(func(p *api.Program) { p.Outputs = 33 }), change(func(p *api.Program) { p.Outputs = math.MaxInt }), change(func(p *api.Program) { p.Code[0].Op = 0 }), change(func(p *api.Program) { p.Code = append(p.Code, api.Instr{Op: api.If}) }),
		compile(t, "out o: vec3; main { }"), compile(t, "out o: int; main { }"), compile(t, "main { }"), {Stage: 1, Outputs: -1}, {Stage: 1, Outputs: 3}, {Stage: 1, Outputs: math.MinInt},
	}
}

func TestP29_2Errors(t *testing.T) {
	for _, p := range wrongPrograms(t) {
		for _, inputs := range [][][]int{nil, {{1}}, make([][]int, 1025)} {
			if got, code := vertexstage.Shade(p, bindings(), inputs); code != api.ErrShader || got != nil {
				t.Errorf("a wrong program makes %v, error %d", got, code)
			}
		}
	}
	// Four outputs are enough.
	if got, code := vertexstage.Shade(api.Program{Stage: 1, Outputs: 4}, api.Bindings{}, make([][]int, 2)); code != api.OK || len(got) != 2 || !same(got[1], vertex(0, 0, 0, 0)) {
		t.Errorf("an empty program makes %v, error %d", got, code)
	}
}

// attributes are those of the shaders with inputs: 4 + 1 components in two buffers.
var attributes = []api.Attribute{{Buffer: 0, Offset: 4, Stride: 16, Format: api.Fixed4}, {Buffer: 2, Stride: 4, Format: api.Int1}}

// buffers returns vertex buffers for these attributes with different values for 30 vertices.
func buffers() [][]byte {
	s := state(7)
	list := [][]byte{{9, 9, 9, 9}, nil, nil}
	for range 30 {
		list[0] = buffer.AppendAttribute(list[0], api.Fixed4, []int{s.next(9)*one - 4*one, s.next(one), s.next(9) * one, s.number()})
		list[2] = buffer.AppendAttribute(list[2], api.Int1, []int{s.number()})
	}
	return list
}

func checkProcess(t *testing.T, p api.Program, a []api.Attribute, indices []int) {
	t.Helper()
	list, before, order := buffers(), slices.Clone(a), slices.Clone(indices)
	vertices, positions, code := vertexstage.Process(p, bindings(), a, list, indices)
	if code != api.OK || len(positions) != len(indices) {
		t.Fatalf("for the indices %v there are %d positions, error %d", indices, len(positions), code)
	}
	// Each vertex occurs once, in the order of the indices.
	next := 0
	for i, position := range positions {
		index := indices[i]
		if index < 0 {
			if position != -1 {
				t.Fatalf("the position of index %d is %d", index, position)
			}
			continue
		}
		if position == next && slices.Index(indices, index) == i {
			next++
		}
		if position < 0 || position >= next || position != positions[slices.Index(indices, index)] {
			t.Fatalf("the position of index %d of %v is %d", i, indices, position)
		}
		result, _ := lower.LaneOf(p, bindings(), fetch.Vertex(a, list, index))
		if want := expectedVertex(result.Outputs); !same(vertices[position], want) {
			t.Fatalf("the vertex of index %d is %v, want %v", index, vertices[position], want)
		}
	}
	if len(vertices) != next {
		t.Fatalf("for the indices %v there are %d vertices, want %d", indices, len(vertices), next)
	}
	if !slices.EqualFunc(list, buffers(), slices.Equal) || !slices.Equal(a, before) || !slices.Equal(order, indices) {
		t.Error("Process changed its arguments")
	}
}

func TestP29_3Process(t *testing.T) {
	s := state(3)
	arbitrary := make([]int, 1024)
	for i := range arbitrary {
		arbitrary[i] = s.next(50) - 5
	}
	ascending := make([]int, 1024)
	for i := range ascending {
		ascending[i] = i
	}
	for _, text := range shaders[2:] {
		p := compile(t, text)
		for _, indices := range [][]int{nil, {}, {0}, {-1}, {7, 3, 7, -1}, {3, 2, 1, 0}, {5, 5, 5, 5}, {29, 30, 31}, {math.MaxInt, math.MinInt, 65536, 65537, 1 << 32, math.MaxInt}, arbitrary[:100], arbitrary[:1023], arbitrary, ascending[:1023], ascending, ascending[:16], ascending[:17]} {
			checkProcess(t, p, attributes, indices)
			// Other attributes with as many components, one of them without its buffer.
			checkProcess(t, p, []api.Attribute{{Buffer: 0, Stride: 4, Format: api.UNorm8x4}, {Buffer: 3, Format: api.Fixed1}}, indices)
			checkProcess(t, p, []api.Attribute{{Buffer: 1, Stride: 4, Format: api.Half4}, {Buffer: 2, Offset: 4096, Format: api.Fixed1}}, indices)
		}
	}
	// Without attributes.
	for _, text := range shaders[:2] {
		checkProcess(t, compile(t, text), nil, []int{4, 5, 4, -1, 0})
		checkProcess(t, compile(t, text), []api.Attribute{}, ascending)
	}
	// With as many components as there can be.
	many := make([]api.Attribute, 8)
	for i := range many {
		many[i] = api.Attribute{Buffer: i % 3, Offset: i, Stride: 12, Format: api.Fixed4}
	}
	checkProcess(t, compile(t, "in a: vec4; in b: vec4; in c: vec4; in d: vec4; in e: vec4; in f: vec4; in g: vec4; in h: vec4; out o: vec4; out p: vec4; main { o = a + b * c + d; p = e + f + g * h; }"), many, arbitrary[:200])
}

// TestP29_3Errors has each error, and all pairs of errors.
func TestP29_3Errors(t *testing.T) {
	good := compile(t, shaders[2])
	programs := map[api.Errno][]api.Program{api.ErrShader: wrongPrograms(t), api.OK: {good}}
	long := map[api.Errno][]int{api.ErrTooLong: make([]int, 1025), api.OK: make([]int, 1024)}
	lists := map[api.Errno][][]api.Attribute{
		api.OK: {attributes}, api.ErrCount: {attributes[:1], attributes[1:], nil, slices.Repeat(attributes, 2)},
		api.ErrArgument: {{{Buffer: 4, Format: api.Fixed4}, attributes[1]}, {attributes[0], {Format: 9}}, {attributes[0], {Offset: 4097, Format: api.Int1}}, {attributes[0], {Stride: -1, Format: api.Int1}}, slices.Repeat(attributes[1:], 9), {{}}, {attributes[0], attributes[1], {}}},
	}
	for attributeError, someAttributes := range lists {
		for programError, somePrograms := range programs {
			for lengthError, indices := range long {
				want := attributeError
				if attributeError != api.ErrArgument && programError != api.OK {
					want = programError
				}
				if want == api.OK {
					want = lengthError
				}
				for _, a := range someAttributes {
					for _, p := range somePrograms {
						vertices, positions, code := vertexstage.Process(p, bindings(), a, buffers(), indices)
						if code != want || code != api.OK && (vertices != nil || positions != nil) {
							t.Errorf("%v, a program with error %d and %d indices have error %d, want %d, and %d vertices", a, programError, len(indices), code, want, len(vertices))
						}
					}
				}
			}
		}
	}
	if _, _, code := vertexstage.Process(good, bindings(), attributes, nil, make([]int, 1<<16)); code != api.ErrTooLong {
		t.Errorf("65536 indices have error %d", code)
	}
}

func TestP29_4Gather(t *testing.T) {
	list := []api.Vertex{vertex(1, 2, 3, 4), vertex(5, 6, 7, 8, 9), vertex(math.MaxInt, math.MinInt, 0, 0, 10, math.MinInt)}
	for _, c := range []struct{ positions, want [][3]int }{
		{nil, nil}, {[][3]int{}, nil}, {[][3]int{{0, 1, 2}}, [][3]int{{0, 1, 2}}}, {[][3]int{{2, 1, 0}, {1, 1, 1}, {0, 0, 2}}, [][3]int{{2, 1, 0}, {1, 1, 1}, {0, 0, 2}}}, {[][3]int{{0, 1, 3}, {2, 0, 1}}, [][3]int{{2, 0, 1}}}, {[][3]int{{0, 3, 1}, {3, 0, 1}, {3, 3, 3}}, nil}, {[][3]int{{-1, 0, 1}, {0, -1, 1}, {0, 1, -1}, {2, 2, 2}, {0, 0, math.MinInt}}, [][3]int{{2, 2, 2}}}, {[][3]int{{0, 1, math.MaxInt}, {1 << 32, 0, 1}, {0, 1<<32 + 1, 1}}, nil},
	} {
		before, text := slices.Clone(c.positions), fmt.Sprint(list)
		got := vertexstage.Gather(list, c.positions)
		if len(got) != len(c.want) {
			t.Errorf("at %v there are %v, want %v", c.positions, got, c.want)
			continue
		}
		for i, tri := range got {
			for k, v := range tri {
				if !same(v, list[c.want[i][k]]) {
					t.Errorf("vertex %d of triangle %d at %v is %v", k, i, c.positions, v)
				}
			}
		}
		// Each vertex has memory of its own, also where it occurs several times.
		for i := range got {
			for k := range got[i] {
				for j := range got[i][k].Varyings {
					got[i][k].Varyings[j]--
					if got[i][k].Varyings[j] != list[c.want[i][k]].Varyings[j]-1 {
						t.Errorf("vertices at %v share memory", c.positions)
					}
				}
			}
		}
		if !slices.Equal(before, c.positions) || fmt.Sprint(list) != text {
			t.Error("Gather changed its arguments")
		}
	}
	for _, vertices := range [][]api.Vertex{nil, {}} {
		if got := vertexstage.Gather(vertices, [][3]int{{0, 0, 0}, {-1, -1, -1}}); len(got) > 0 {
			t.Errorf("without vertices there are triangles: %v", got)
		}
	}
	if got := vertexstage.Gather(list, slices.Repeat([][3]int{{0, 1, 2}}, 5000)); len(got) != 5000 {
		t.Errorf("there are %d triangles", len(got))
	}
}

// TestP29_5Alone compares the vertex of each index with that of a list with this index alone, and with other indices around it.
func TestP29_5Alone(t *testing.T) {
	s := state(4)
	for _, text := range shaders[2:] {
		p := compile(t, text)
		for range 40 {
			indices := make([]int, 1+s.next(60))
			for i := range indices {
				indices[i] = s.next(33)
			}
			vertices, positions, _ := vertexstage.Process(p, bindings(), attributes, buffers(), indices)
			for i, index := range indices {
				alone, _, code := vertexstage.Process(p, bindings(), attributes, buffers(), []int{index})
				if code != api.OK || len(alone) != 1 || !same(alone[0], vertices[positions[i]]) {
					t.Fatalf("index %d alone gives %v, error %d, and among %v %v", index, alone, code, indices, vertices[positions[i]])
				}
			}
		}
	}
}

// TestP29_1Memory changes results, which share no memory.
func TestP29_1Memory(t *testing.T) {
	outputs := []int{1, 2, 3, 4, 5, 6}
	v, w := vertexstage.VertexOf(outputs), vertexstage.VertexOf(outputs)
	clear(v.Varyings[:cap(v.Varyings)])
	if !slices.Equal(outputs, []int{1, 2, 3, 4, 5, 6}) || !same(w, vertex(1, 2, 3, 4, 5, 6)) {
		t.Error("the results of VertexOf share memory")
	}
	p := compile(t, strings.Replace(shaders[3], "q: vec2", "q: vec2; out r: vec4", 1))
	inputs := [][]int{{1, 2, 3, 4, 5}, {1, 2, 3, 4, 5}, {1, 2, 3, 4, 5}}
	shaded, _ := vertexstage.Shade(p, bindings(), inputs)
	for i, v := range shaded {
		if v.Varyings[2] != 4 {
			t.Errorf("the vertices of Shade share memory: vertex %d is %v", i, v)
		}
		clear(v.Varyings[:cap(v.Varyings)])
	}
	one, positions, _ := vertexstage.Process(p, bindings(), attributes, buffers(), []int{3, 3, 4})
	text := fmt.Sprint(one, positions)
	clear(one[0].Varyings[:cap(one[0].Varyings)])
	clear(positions[:cap(positions)])
	two, positions, _ := vertexstage.Process(p, bindings(), attributes, buffers(), []int{3, 3, 4})
	if fmt.Sprint(two, positions) != text {
		t.Error("the results of Process share memory")
	}
}
