package pipeline_test

import (
	"fmt"
	"math"
	"math/big"
	"reflect"
	"slices"
	"testing"

	"frustum/api"
	"frustum/blend"
	"frustum/buffer"
	"frustum/compiler"
	"frustum/depth"
	"frustum/isa"
	"frustum/pipeline"
	"frustum/stencil"
	"frustum/target"
)

const (
	one      = api.One
	largest  = math.MaxInt
	smallest = math.MinInt
)

// compile returns the program of a shader.
func compile(t *testing.T, text string) api.Program {
	t.Helper()
	p, line, code := compiler.Compile("shader "+text, 256)
	if code != api.OK {
		t.Fatalf("the test is wrong: %s has error %d in line %d", text, code, line)
	}
	return p
}

// simple returns a pipeline without a geometry stage, with a varying.
func simple(t *testing.T) api.Pipeline {
	t.Helper()
	p := pipeline.Default()
	p.Vertex = compile(t, "vertex; uniform m: vec3; buffer b; in a: vec4; in u: vec2; out o: vec4; out v: vec2; main { o = a; v = u; }")
	p.Fragment = compile(t, "fragment; uniform k: fixed; texture s; texture q; in v: vec2; out o: vec4; main { o = sample(q, v, 0.0) * k; }")
	p.Attributes = []api.Attribute{{Stride: 24, Format: api.Fixed4}, {Buffer: 3, Offset: 16, Stride: 24, Format: api.Half2}}
	return p
}

// complete returns a pipeline with a geometry stage.
func complete(t *testing.T) api.Pipeline {
	t.Helper()
	p := simple(t)
	p.HasGeometry = true
	p.Geometry = compile(t, "geometry; uniform x: vec2; uniform z: vec4; buffer b; buffer c; in p: vec4; in u: vec2; in q: vec4; in v: vec2; in r: vec4; in w: vec2; out o: vec4; out y: fixed; main { o = p; emit; o = q; emit; o = r + z; emit; }")
	p.Fragment = compile(t, "fragment; in y: fixed; out o: vec4; main { o.x = y; }")
	return p
}

// numbers returns numbers among which all limits are, with those next to them.
func numbers() []int {
	return []int{-1, 0, 1, 2, 3, 4, 5, 6, 7, 8, 9, 10, 11, 15, 16, 63, 64, 65, 255, 256, one - 1, one, one + 1, -one, -one - 1, 1 << 32, 1<<32 + 1, largest, largest - 1, smallest, smallest + 1}
}

// written returns all that a pipeline refers to.
func written(p api.Pipeline) string {
	p.Attributes = p.Attributes[:cap(p.Attributes)]
	for _, code := range []*[]api.Instr{&p.Vertex.Code, &p.Geometry.Code, &p.Fragment.Code} {
		*code = (*code)[:cap(*code)]
	}
	return fmt.Sprint(p)
}

// copied returns a copy of a pipeline.
func copied(p api.Pipeline) api.Pipeline {
	for _, program := range []*api.Program{&p.Vertex, &p.Geometry, &p.Fragment} {
		program.Code = slices.Clone(program.Code)
	}
	p.Attributes = slices.Clone(p.Attributes)
	return p
}

// state makes arbitrary numbers.
type state uint64

func (s *state) next(beyond int) int {
	*s = *s*6364136223846793005 + 1442695040888963407
	return int(*s>>33) % beyond
}

func (s *state) number() int {
	return numbers()[s.next(len(numbers()))]
}

// ints returns all fields of a pipeline that are numbers, in any depth.
func ints(v reflect.Value) []reflect.Value {
	var all []reflect.Value
	switch v.Kind() {
	case reflect.Int:
		return []reflect.Value{v}
	case reflect.Struct:
		for i := range v.NumField() {
			all = append(all, ints(v.Field(i))...)
		}
	case reflect.Slice:
		for i := range v.Len() {
			all = append(all, ints(v.Index(i))...)
		}
	}
	return all
}

// bools returns all fields of a pipeline that are true or false, in any depth.
func bools(v reflect.Value) []reflect.Value {
	var all []reflect.Value
	switch v.Kind() {
	case reflect.Bool:
		return []reflect.Value{v}
	case reflect.Struct:
		for i := range v.NumField() {
			all = append(all, bools(v.Field(i))...)
		}
	}
	return all
}

// between reports whether all numbers are in a range.
func between(low, high int, numbers ...int) bool {
	return !slices.ContainsFunc(numbers, func(x int) bool { return x < low || x > high })
}

// expectedVaryings returns the number of varyings, in exact integers.
func expectedVaryings(p api.Pipeline) int {
	outputs := map[bool]int{false: p.Vertex.Outputs, true: p.Geometry.Outputs}[p.HasGeometry]
	n := new(big.Int).Sub(big.NewInt(int64(outputs)), big.NewInt(4))
	if n.Sign() < 0 {
		return 0
	}
	return int(n.Int64())
}

// expectedValidate is a second reading of P43.2: each rule with its error, in order.
func expectedValidate(p api.Pipeline) api.Errno {
	program := func(x api.Program, stage api.Stage) bool { return x.Stage == stage && isa.Validate(x) == api.OK }
	geometry := map[bool]bool{true: program(p.Geometry, api.GeometryStage), false: reflect.DeepEqual(p.Geometry, api.Program{}) || len(p.Geometry.Code) == 0 && p.Geometry.Code != nil && fmt.Sprint(p.Geometry) == fmt.Sprint(api.Program{})}[p.HasGeometry]
	components := 0
	attributes := len(p.Attributes) <= 8
	for _, a := range p.Attributes {
		attributes = attributes && buffer.ValidAttribute(a)
		components += buffer.Components(a.Format)
	}
	v := p.Viewport
	viewport := between(0, 64, v.X, v.Y) && between(1, 64, v.Width, v.Height)
	viewport = viewport && v.X+v.Width <= 64 && v.Y+v.Height <= 64 && between(0, one, v.MinDepth, v.MaxDepth) && v.MinDepth <= v.MaxDepth
	var link []bool
	if p.HasGeometry {
		link = append(link, p.Geometry.Inputs == p.Vertex.Outputs+p.Vertex.Outputs+p.Vertex.Outputs, p.Geometry.Outputs >= 4)
	}
	link = append(link, p.Vertex.Outputs >= 4, p.Fragment.Inputs == expectedVaryings(p), p.Fragment.Outputs >= 4)
	for _, rule := range []struct {
		code  api.Errno
		holds bool
	}{
		{api.ErrShader, program(p.Vertex, 1) && program(p.Fragment, 3) && geometry},
		{api.ErrCount, attributes && components <= 32 && components == p.Vertex.Inputs},
		{api.ErrLink, !slices.Contains(link, false)},
		{api.ErrKind, between(1, 3, int(p.Topology), int(p.Cull))},
		{api.ErrRange, viewport},
		{api.ErrState, depth.ValidState(p.Depth) && stencil.Valid(p.Stencil) && blend.Valid(p.Blend)},
		{api.ErrFormat, between(1, 6, int(p.Format)) && between(1, 3, int(p.DepthFormat))},
		{api.ErrSize, slices.Contains([]int{1, 2, 4, 8}, p.Samples)},
	} {
		if !rule.holds {
			return rule.code
		}
	}
	return api.OK
}

// check compares Validate, Varyings and Bindings with their second readings.
func check(t *testing.T, p api.Pipeline) api.Errno {
	t.Helper()
	before := written(p)
	want := expectedValidate(p)
	if got := pipeline.Validate(p); got != want {
		t.Fatalf("%+v has error %d, want %d", p, got, want)
	}
	if got := pipeline.Varyings(p); got != expectedVaryings(p) {
		t.Fatalf("%+v has %d varyings", p, got)
	}
	greatest := [3]int{}
	for i, of := range []func(p api.Program) int{func(p api.Program) int { return p.Uniforms }, func(p api.Program) int { return p.Textures }, func(p api.Program) int { return p.Buffers }} {
		list := []int{of(p.Vertex), of(p.Fragment)}
		if p.HasGeometry {
			list = append(list, of(p.Geometry))
		}
		greatest[i] = slices.Max(list)
	}
	if a, b, c := pipeline.Bindings(p); [3]int{a, b, c} != greatest {
		t.Fatalf("%+v has the bindings %d, %d and %d", p, a, b, c)
	}
	if written(p) != before {
		t.Fatal("the pipeline was changed")
	}
	return want
}

func TestP43_1Varyings(t *testing.T) {
	for _, c := range []struct {
		vertex, geometry int
		has              bool
		want             int
	}{
		{4, 0, false, 0}, {5, 0, false, 1}, {32, 0, false, 28}, {3, 0, false, 0}, {0, 9, false, 0}, {-1, 9, false, 0}, {9, 4, true, 0}, {9, 6, true, 2}, {9, 3, true, 0}, {9, -1, true, 0},
		{smallest, 9, false, 0}, {smallest + 3, 9, false, 0}, {largest, 9, false, largest - 4}, {9, smallest, true, 0}, {9, largest, true, largest - 4},
	} {
		p := api.Pipeline{HasGeometry: c.has, Vertex: api.Program{Outputs: c.vertex}, Geometry: api.Program{Outputs: c.geometry}, Fragment: api.Program{Outputs: 77}}
		if got := pipeline.Varyings(p); got != c.want {
			t.Errorf("Varyings with %+v is %d", c, got)
		}
	}
	if got := pipeline.Varyings(pipeline.Default()); got != 0 {
		t.Errorf("Varyings of Default is %d", got)
	}
	if a, b := pipeline.Varyings(simple(t)), pipeline.Varyings(complete(t)); a != 2 || b != 1 {
		t.Errorf("Varyings are %d and %d", a, b)
	}
}

func TestP43_1Bindings(t *testing.T) {
	for _, c := range []struct {
		p    api.Pipeline
		want [3]int
	}{
		{pipeline.Default(), [3]int{}}, {simple(t), [3]int{3, 2, 1}}, {complete(t), [3]int{6, 0, 2}}, {api.Pipeline{}, [3]int{}},
		// Without a geometry stage its program does not count, and numbers are taken as they are.
		{api.Pipeline{Geometry: api.Program{Uniforms: 9, Textures: 9, Buffers: 9}, Vertex: api.Program{Uniforms: -5, Textures: 1, Buffers: largest}, Fragment: api.Program{Uniforms: -7, Textures: 2, Buffers: smallest}}, [3]int{-5, 2, largest}},
		{api.Pipeline{HasGeometry: true, Geometry: api.Program{Uniforms: 9, Textures: -9, Buffers: 9}, Vertex: api.Program{Uniforms: -5, Textures: -10, Buffers: 8}, Fragment: api.Program{Uniforms: -7, Textures: -11, Buffers: 10}}, [3]int{9, -9, 10}},
	} {
		if a, b, n := pipeline.Bindings(c.p); [3]int{a, b, n} != c.want {
			t.Errorf("the bindings are %d, %d and %d, want %v", a, b, n, c.want)
		}
	}
}

// TestP43_1Equal changes each field of a pipeline alone.
func TestP43_1Equal(t *testing.T) {
	for _, p := range []api.Pipeline{pipeline.Default(), simple(t), complete(t), {}} {
		count := len(ints(reflect.ValueOf(p)))
		for i := range count {
			for _, by := range []int64{1, -1, 1 << 32} {
				q := copied(p)
				field := ints(reflect.ValueOf(&q).Elem())[i]
				if before := written(p); !pipeline.Equal(p, q) || !pipeline.Equal(q, p) || written(p) != before {
					t.Fatal("a copy is not equal")
				}
				field.SetInt(field.Int() + by)
				if pipeline.Equal(p, q) || pipeline.Equal(q, p) {
					t.Fatalf("%+v and %+v are equal", p, q)
				}
			}
		}
		for i := range bools(reflect.ValueOf(p)) {
			q := copied(p)
			field := bools(reflect.ValueOf(&q).Elem())[i]
			field.SetBool(!field.Bool())
			if pipeline.Equal(p, q) {
				t.Fatalf("%+v and %+v are equal", p, q)
			}
		}
		for i := range 4 {
			longer := copied(p)
			switch i {
			case 0:
				longer.Attributes = append(longer.Attributes, api.Attribute{})
			case 1:
				longer.Vertex.Code = append(longer.Vertex.Code, api.Instr{})
			case 2:
				longer.Geometry.Code = append(longer.Geometry.Code, api.Instr{})
			case 3:
				longer.Fragment.Code = append(longer.Fragment.Code, api.Instr{})
			}
			if pipeline.Equal(p, longer) || pipeline.Equal(longer, p) {
				t.Errorf("%+v and %+v are equal", p, longer)
			}
		}
	}
	empty := api.Pipeline{Attributes: []api.Attribute{}, Vertex: api.Program{Code: []api.Instr{}}, Geometry: api.Program{Code: []api.Instr{}}, Fragment: api.Program{Code: []api.Instr{}}}
	if !pipeline.Equal(empty, api.Pipeline{}) {
		t.Error("nil and empty lists are not equal")
	}
}

// violation breaks one rule of a pipeline.
type violation struct {
	name   string
	code   api.Errno
	change func(p *api.Pipeline)
}

// violations returns changes of valid pipelines, in the order of their errors. Those of earlier errors are to be applied last.
func violations(t *testing.T) []violation {
	short := compile(t, "vertex; in a: vec4; in u: vec2; out o: vec3; main { }")
	long := compile(t, "vertex; in a: vec4; in u: vec2; out o: vec4; out v: vec4; main { }")
	dark := compile(t, "fragment; in y: fixed; in z: fixed; out o: vec3; main { }")
	greedy := compile(t, "fragment; in y: vec4; out o: vec4; main { }")
	all := []violation{
		{"no vertex program", api.ErrShader, func(p *api.Pipeline) { p.Vertex = api.Program{} }},
		{"a vertex program that is not valid", api.ErrShader, func(p *api.Pipeline) { p.Vertex.Code = append(p.Vertex.Code, api.Instr{Op: 99}) }},
		{"a vertex program of another stage", api.ErrShader, func(p *api.Pipeline) { p.Vertex.Stage = api.GeometryStage }},
		{"no fragment program", api.ErrShader, func(p *api.Pipeline) { p.Fragment = api.Program{} }},
		{"a fragment program that is not valid", api.ErrShader, func(p *api.Pipeline) { p.Fragment.Registers = -1 }},
		{"a fragment program of another stage", api.ErrShader, func(p *api.Pipeline) { p.Fragment = p.Vertex }},
		{"the wrong geometry program", api.ErrShader, func(p *api.Pipeline) { p.HasGeometry = !p.HasGeometry }},
		{"a geometry program that is not valid", api.ErrShader, func(p *api.Pipeline) { p.Geometry.Registers-- }},
		{"a vertex program for geometry", api.ErrShader, func(p *api.Pipeline) { p.Geometry = p.Vertex }},
		{"too few components", api.ErrCount, func(p *api.Pipeline) { p.Attributes = p.Attributes[:1] }},
		{"no attributes", api.ErrCount, func(p *api.Pipeline) { p.Attributes = nil }},
		{"an attribute too many", api.ErrCount, func(p *api.Pipeline) { p.Attributes = append(p.Attributes, api.Attribute{Format: api.Int1}) }},
		{"an attribute that is not valid", api.ErrCount, func(p *api.Pipeline) { p.Attributes[1].Buffer = 4 }},
		{"an attribute without a format", api.ErrCount, func(p *api.Pipeline) { p.Attributes = append(p.Attributes, api.Attribute{}) }},
		{"a short position", api.ErrLink, func(p *api.Pipeline) { p.Vertex = short }},
		{"a dark color", api.ErrLink, func(p *api.Pipeline) { p.Fragment = dark; p.Fragment.Inputs = pipeline.Varyings(*p) }},
		{"too many inputs", api.ErrLink, func(p *api.Pipeline) { p.Fragment = greedy }},
		{"other outputs", api.ErrLink, func(p *api.Pipeline) { p.Vertex = long }},
	}
	for _, n := range []int{0, 4, -1, 1<<32 + 1, largest, smallest} {
		all = append(all,
			violation{fmt.Sprintf("topology %d", n), api.ErrKind, func(p *api.Pipeline) { p.Topology = api.Topology(n) }},
			violation{fmt.Sprintf("cull mode %d", n), api.ErrKind, func(p *api.Pipeline) { p.Cull = api.CullMode(n) }})
	}
	all = append(all,
		violation{"no viewport", api.ErrRange, func(p *api.Pipeline) { p.Viewport = api.Viewport{} }},
		violation{"a viewport that is too wide", api.ErrRange, func(p *api.Pipeline) { p.Viewport.Width = 65 }},
		violation{"wrong depths", api.ErrRange, func(p *api.Pipeline) { p.Viewport.MinDepth = p.Viewport.MaxDepth + 1 }},
		violation{"no depth test", api.ErrState, func(p *api.Pipeline) { p.Depth = api.DepthState{} }},
		violation{"too much bias", api.ErrState, func(p *api.Pipeline) { p.Depth.Bias = one + 1 }},
		violation{"no stencil test", api.ErrState, func(p *api.Pipeline) { p.Stencil = api.StencilState{} }},
		violation{"a wide mask", api.ErrState, func(p *api.Pipeline) { p.Stencil.ReadMask = 256 }},
		violation{"no blending", api.ErrState, func(p *api.Pipeline) { p.Blend = api.BlendState{} }},
		violation{"an unknown operation", api.ErrState, func(p *api.Pipeline) { p.Blend.AlphaOp = 6 }})
	for _, n := range []int{0, 7, -1, 1<<32 + 1, largest, smallest} {
		all = append(all, violation{fmt.Sprintf("format %d", n), api.ErrFormat, func(p *api.Pipeline) { p.Format = api.TexelFormat(n) }})
	}
	for _, n := range []int{0, 4, -1, 1<<32 + 1, largest, smallest} {
		all = append(all, violation{fmt.Sprintf("depth format %d", n), api.ErrFormat, func(p *api.Pipeline) { p.DepthFormat = api.DepthFormat(n) }})
	}
	for _, n := range []int{0, 3, 5, 6, 7, 9, 16, -1, 1<<32 + 1, largest, smallest} {
		all = append(all, violation{fmt.Sprintf("%d samples", n), api.ErrSize, func(p *api.Pipeline) { p.Samples = n }})
	}
	return all
}

// TestP43_2Errors breaks each rule alone, and all pairs of rules.
func TestP43_2Errors(t *testing.T) {
	list := violations(t)
	for _, p := range []api.Pipeline{simple(t), complete(t)} {
		for i, first := range list {
			for _, second := range list[i:] {
				if first.code == second.code {
					continue
				}
				q := copied(p)
				second.change(&q)
				first.change(&q)
				if got := pipeline.Validate(q); got != first.code {
					t.Errorf("%s and %s have error %d, want %d", first.name, second.name, got, first.code)
				}
				check(t, q)
			}
			q := copied(p)
			first.change(&q)
			if got := pipeline.Validate(q); got != first.code {
				t.Errorf("%s has error %d, want %d", first.name, got, first.code)
			}
		}
	}
}

func TestP43_2Geometry(t *testing.T) {
	p := complete(t)
	p.Geometry = compile(t, "geometry; in a: vec4; in b: vec4; in c: vec4; out o: vec4; out y: fixed; main { }")
	if got := check(t, p); got != api.ErrLink {
		t.Errorf("too few inputs of the geometry stage have error %d", got)
	}
	p.Geometry = compile(t, "geometry; in a: vec4; in b: vec4; in c: vec4; in d: vec4; in e: vec2; out o: vec3; main { }")
	p.Fragment = compile(t, "fragment; out o: vec4; main { }")
	if got := check(t, p); got != api.ErrLink {
		t.Errorf("too few outputs of the geometry stage have error %d", got)
	}
	p.Geometry = compile(t, "geometry; in a: vec4; in b: vec4; in c: vec4; in d: vec4; in e: vec2; out o: vec4; main { }")
	if got := check(t, p); got != api.OK {
		t.Errorf("a pipeline has error %d", got)
	}
	// Without a geometry stage each field of its program is zero.
	q := simple(t)
	q.Geometry.Code = []api.Instr{}
	if got := check(t, q); got != api.OK {
		t.Errorf("an empty list of instructions has error %d", got)
	}
	for i := range ints(reflect.ValueOf(q.Geometry)) {
		r := q
		ints(reflect.ValueOf(&r.Geometry).Elem())[i].SetInt(1)
		if got := check(t, r); got != api.ErrShader {
			t.Errorf("field %d has error %d", i, got)
		}
	}
	q.Geometry.Code = []api.Instr{{}}
	if got := check(t, q); got != api.ErrShader {
		t.Errorf("an instruction has error %d", got)
	}
}

// TestP43_2Attributes has as many attributes and components as there may be.
func TestP43_2Attributes(t *testing.T) {
	p := pipeline.Default()
	p.Vertex.Inputs = 32
	p.Attributes = slices.Repeat([]api.Attribute{{Format: api.Fixed4}}, 8)
	if got := check(t, p); got != api.OK {
		t.Errorf("32 components have error %d", got)
	}
	p.Vertex.Inputs = 9
	p.Attributes = slices.Repeat([]api.Attribute{{Format: api.Int1}}, 9)
	if got := check(t, p); got != api.ErrCount {
		t.Errorf("9 attributes have error %d", got)
	}
	p.Vertex, p.Attributes = compile(t, "vertex; out o: vec4; main { }"), nil
	if got := check(t, p); got != api.OK {
		t.Errorf("no attributes have error %d", got)
	}
	p.Attributes = []api.Attribute{}
	if got := check(t, p); got != api.OK {
		t.Errorf("an empty list of attributes has error %d", got)
	}
}

// TestP43_2Fields sets each field of a pipeline to telling numbers.
func TestP43_2Fields(t *testing.T) {
	seen := map[api.Errno]int{}
	for _, p := range []api.Pipeline{pipeline.Default(), simple(t), complete(t)} {
		for i := range ints(reflect.ValueOf(p)) {
			for _, x := range numbers() {
				q := copied(p)
				ints(reflect.ValueOf(&q).Elem())[i].SetInt(int64(x))
				seen[check(t, q)]++
			}
		}
	}
	for _, code := range []api.Errno{api.OK, api.ErrShader, api.ErrCount, api.ErrLink, api.ErrKind, api.ErrRange, api.ErrState, api.ErrFormat, api.ErrSize} {
		if seen[code] < 20 {
			t.Errorf("only %d pipelines have error %d", seen[code], code)
		}
	}
}

// TestP43_2Arbitrary changes several fields at once.
func TestP43_2Arbitrary(t *testing.T) {
	s := state(1)
	all := []api.Pipeline{pipeline.Default(), simple(t), complete(t), {}}
	list := violations(t)
	for range 8000 {
		p := copied(all[s.next(4)])
		for range s.next(3) {
			if s.next(3) == 0 && len(p.Attributes) > 1 {
				list[s.next(len(list))].change(&p)
				continue
			}
			fields := ints(reflect.ValueOf(&p).Elem())
			fields[s.next(len(fields))].SetInt(int64(s.number()))
		}
		if s.next(10) == 0 {
			fields := bools(reflect.ValueOf(&p).Elem())
			fields[s.next(len(fields))].SetBool(s.next(2) == 0)
		}
		check(t, p)
	}
}

func TestP43_3Default(t *testing.T) {
	keep := api.StencilFace{Compare: 8, Fail: 1, DepthFail: 1, Pass: 1}
	want := api.Pipeline{
		Vertex:     api.Program{Stage: 1, Registers: 4, Inputs: 4, Outputs: 4, Code: []api.Instr{{Op: 37}, {Op: 39}, {Op: 37, Dst: 1, Imm: 1}, {Op: 39, A: 1, Imm: 1}, {Op: 37, Dst: 2, Imm: 2}, {Op: 39, A: 2, Imm: 2}, {Op: 37, Dst: 3, Imm: 3}, {Op: 39, A: 3, Imm: 3}}},
		Fragment:   api.Program{Stage: 3, Registers: 1, Outputs: 4, Code: []api.Instr{{Op: 1, Imm: 65536}, {Op: 39}, {Op: 39, Imm: 1}, {Op: 39, Imm: 2}, {Op: 39, Imm: 3}}},
		Attributes: []api.Attribute{{Buffer: 0, Offset: 0, Stride: 16, Format: 4}}, Topology: 1, Cull: 1, Viewport: api.Viewport{X: 0, Y: 0, Width: 64, Height: 64, MinDepth: 0, MaxDepth: 65536},
		Depth: api.DepthState{Compare: 8}, Stencil: api.StencilState{Front: keep, Back: keep, Reference: 0, ReadMask: 255, WriteMask: 255},
		Blend: api.BlendState{SourceColor: 2, TargetColor: 1, ColorOp: 1, SourceAlpha: 2, TargetAlpha: 1, AlphaOp: 1, Mask: 15}, Samples: 1, Format: 2, DepthFormat: 1,
	}
	got := pipeline.Default()
	if !reflect.DeepEqual(got, want) {
		t.Errorf("Default is %+v, want %+v", got, want)
	}
	if text := isa.Format(got.Vertex) + isa.Format(got.Fragment); text != "input r0 0\noutput r0 0\ninput r1 1\noutput r1 1\ninput r2 2\noutput r2 2\ninput r3 3\noutput r3 3\nconst r0 65536\noutput r0 0\noutput r0 1\noutput r0 2\noutput r0 3\n" {
		t.Errorf("the programs are %s", text)
	}
	got.Vertex.Code[0].Op, got.Fragment.Code[0].Imm, got.Attributes[0].Stride = 9, 9, 9
	if !reflect.DeepEqual(pipeline.Default(), want) {
		t.Error("two results share memory")
	}
}

func TestP43_5Default(t *testing.T) {
	if got := pipeline.Validate(pipeline.Default()); got != api.OK {
		t.Errorf("Default has error %d", got)
	}
}

func TestP43_4Matches(t *testing.T) {
	for _, samples := range []int{1, 2, 4, 8} {
		for f := api.R8; f <= api.RGBA16F; f++ {
			for d := api.NoDepth; d <= api.D24S8; d++ {
				p := simple(t)
				p.Samples, p.Format, p.DepthFormat = samples, f, d
				p.Viewport.X, p.Viewport.Y, p.Viewport.Width, p.Viewport.Height = 2, 1, 3, 4
				for _, size := range [][2]int{{5, 5}, {4, 5}, {5, 4}, {6, 5}, {5, 6}, {64, 64}, {1, 1}} {
					u, _ := target.New(size[0], size[1], samples, f, d)
					want := size[0] >= 5 && size[1] >= 5
					if got := pipeline.Matches(p, u); got != want {
						t.Errorf("Matches with a target of %v is %t", size, got)
					}
				}
			}
		}
	}
	p := simple(t)
	p.Samples, p.Format, p.DepthFormat, p.Viewport = 2, api.RGBA8, api.D16, api.Viewport{Width: 4, Height: 4, MaxDepth: one}
	good, _ := target.New(4, 4, 2, api.RGBA8, api.D16)
	if !pipeline.Matches(p, good) {
		t.Fatal("the pipeline does not match the target")
	}
	for _, c := range []struct {
		samples int
		f       api.TexelFormat
		d       api.DepthFormat
	}{{1, api.RGBA8, api.D16}, {4, api.RGBA8, api.D16}, {2, api.RGB10A2, api.D16}, {2, api.R8, api.D16}, {2, api.RGBA8, api.NoDepth}, {2, api.RGBA8, api.D24S8}} {
		if other, _ := target.New(4, 4, c.samples, c.f, c.d); pipeline.Matches(p, other) {
			t.Errorf("the pipeline matches a target of %+v", c)
		}
	}
	for _, change := range []func(u *api.Target){
		func(u *api.Target) { u.Depths[3] = -1 }, func(u *api.Target) { u.Stencils[3] = 1 }, func(u *api.Target) { u.Color = nil }, func(u *api.Target) { u.Width = 5 }, func(u *api.Target) { u.Color[1].Data = nil }, func(u *api.Target) { *u = api.Target{} },
	} {
		wrong := target.Clone(good)
		change(&wrong)
		if pipeline.Matches(p, wrong) {
			t.Errorf("the pipeline matches %v", wrong)
		}
	}
}

// TestP43_4Errors has pipelines with each error, most of which differ from the target in nothing else.
func TestP43_4Errors(t *testing.T) {
	for _, p := range []api.Pipeline{simple(t), complete(t)} {
		u, _ := target.New(64, 64, 1, api.RGBA8, api.NoDepth)
		before := fmt.Sprint(u)
		if !pipeline.Matches(p, u) {
			t.Fatal("the pipeline does not match the target")
		}
		for _, v := range violations(t) {
			q := copied(p)
			v.change(&q)
			if pipeline.Matches(q, u) {
				t.Errorf("a pipeline with %s matches", v.name)
			}
		}
		if fmt.Sprint(u) != before {
			t.Error("the target was changed")
		}
	}
}
