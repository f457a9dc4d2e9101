package fragments_test

import (
	"fmt"
	"math"
	"math/big"
	"math/bits"
	"reflect"
	"slices"
	"testing"

	"frustum/api"
	"frustum/compiler"
	"frustum/edge"
	"frustum/fragments"
	"frustum/isa"
	"frustum/lower"
	"frustum/varying"
)

const (
	one      = api.One
	most     = api.MaxValue
	largest  = math.MaxInt
	smallest = math.MinInt
)

// compile returns the program of a fragment shader, given by its declarations and statements.
func compile(t *testing.T, text string) api.Program {
	t.Helper()
	p, line, code := compiler.Compile("shader fragment; "+text, 256)
	if code != api.OK {
		t.Fatalf("the test is wrong: %s has error %d in line %d", text, code, line)
	}
	return p
}

// state makes arbitrary numbers.
type state uint64

func (s *state) next(beyond int) int {
	*s = *s*6364136223846793005 + 1442695040888963407
	return int(*s>>33) % beyond
}

// number returns an arbitrary number of any magnitude.
func (s *state) number() int {
	*s = *s*6364136223846793005 + 1442695040888963407
	return int(*s) >> (*s >> 17 % 64)
}

func (s *state) numbers(count int) []int {
	list := make([]int, count)
	for i := range list {
		list[i] = s.number()
	}
	return list
}

// triangle returns a valid triangle in an image of a size.
func (s *state) triangle(size int) api.Triangle {
	for {
		t := api.Triangle{Primitive: s.number(), Front: s.next(2) == 0}
		count := s.next(4)
		for i := range t.V {
			t.V[i] = api.ScreenVertex{X: s.next(size*256 + 1), Y: s.next(size*256 + 1), Z: s.next(one + 1), InvW: 1 + s.next(256*one), Varyings: s.numbers(count)}
			if s.next(3) == 0 {
				t.V[i].X, t.V[i].Y = t.V[i].X/64*64, t.V[i].Y/64*64
			}
		}
		if edge.Valid(t) {
			return t
		}
	}
}

// positions are the positions of the samples in a pixel, by their number.
var positions = map[int][][2]int{
	1: {{128, 128}}, 2: {{192, 192}, {64, 64}}, 4: {{96, 32}, {224, 96}, {32, 160}, {160, 224}}, 8: {{144, 80}, {112, 176}, {208, 144}, {80, 48}, {48, 208}, {16, 112}, {176, 240}, {240, 16}},
}

// lies reports whether x is one of size numbers from low on, in exact integers.
func lies(x, low, size int) bool {
	end := new(big.Int).Add(big.NewInt(int64(low)), big.NewInt(int64(size)))
	return x >= low && big.NewInt(int64(x)).Cmp(end) < 0
}

// expected is a second reading of P45.1, pixel by pixel.
func expected(t api.Triangle, x0, y0, width, height, samples int) []api.Fragment {
	var list []api.Fragment
	for y := range 64 {
		for x := range 64 {
			f := api.Fragment{X: x, Y: y, Primitive: t.Primitive, Front: t.Front}
			for i, at := range positions[samples] {
				px, py := x*256+at[0], y*256+at[1]
				z := 0
				if edge.Covers(t, px, py) {
					f.Mask += 1 << i
					z = varying.Depth(t, px, py)
				}
				f.Depths = append(f.Depths, z)
			}
			if f.Mask != 0 && lies(x, x0, width) && lies(y, y0, height) {
				f.Inputs = varying.Inputs(t, x, y)
				list = append(list, f)
			}
		}
	}
	return list
}

// same reports whether two lists of fragments are equal, where nil and empty lists are alike.
func same(a, b []api.Fragment) bool {
	return fmt.Sprint(a) == fmt.Sprint(b)
}

// check compares Generate and Samples with their second readings.
func check(t *testing.T, u api.Triangle, x0, y0, width, height, samples int) []api.Fragment {
	t.Helper()
	before := fmt.Sprint(u)
	got, want := fragments.Generate(u, x0, y0, width, height, samples), expected(u, x0, y0, width, height, samples)
	if !same(got, want) || !slices.EqualFunc(got, want, fragments.Equal) {
		t.Fatalf("the fragments of %v at (%d, %d) of %dx%d with %d samples are %v, want %v", u, x0, y0, width, height, samples, got, want)
	}
	sum := 0
	for _, f := range got {
		sum += bits.OnesCount(uint(f.Mask))
	}
	if n := fragments.Samples(got); n != sum || !same(got, want) {
		t.Fatalf("%v have %d samples", got, n)
	}
	// The results share no memory with the triangle or with one another.
	again := fragments.Generate(u, x0, y0, width, height, samples)
	for i, f := range again {
		for k := range f.Depths {
			f.Depths[k] = -i - 1
		}
		for k := range f.Inputs {
			f.Inputs[k] = i
		}
	}
	for i, f := range again {
		if slices.ContainsFunc(f.Depths, func(x int) bool { return x != -i-1 }) || slices.ContainsFunc(f.Inputs, func(x int) bool { return x != i }) {
			t.Fatal("two fragments share memory")
		}
	}
	if fmt.Sprint(u) != before {
		t.Fatal("the triangle was changed")
	}
	return got
}

func TestP45_1Generate(t *testing.T) {
	u := api.Triangle{V: [3]api.ScreenVertex{{Z: one, InvW: one, Varyings: []int{4000}}, {X: 512, Z: 0, InvW: one, Varyings: []int{8000}}, {Y: 512, Z: one, InvW: one, Varyings: []int{4000}}}, Primitive: 9, Front: true}
	got := check(t, u, 0, 0, 64, 64, 1)
	// Right of the pixel the varying is greater by 2000; below it lies outside of the triangle.
	want := []api.Fragment{{Mask: 1, Primitive: 9, Front: true, Depths: []int{3 * one / 4}, Inputs: []int{5000, 2000, 0}}}
	if !same(got, want) {
		t.Errorf("the fragments are %v, want %v", got, want)
	}
	u.Front, u.Primitive = false, smallest
	want = []api.Fragment{
		{Mask: 15, Primitive: smallest, Depths: []int{53248, 36864, 61440, 45056}, Inputs: []int{5000, 2000, 0}},
		{X: 1, Mask: 5, Primitive: smallest, Depths: []int{20480, 0, 28672, 0}, Inputs: []int{7000, 333, -1000}},
		{Y: 1, Mask: 5, Primitive: smallest, Depths: []int{53248, 0, 61440, 0}, Inputs: []int{5000, 1000, -333}},
	}
	if got := check(t, u, 0, 0, 2, 2, 4); !same(got, want) {
		t.Errorf("the fragments with 4 samples are %v, want %v", got, want)
	}
	for _, samples := range []int{1, 2, 4, 8, 0, -1, 3, 5, 16, 9, 1<<32 + 1, largest, smallest} {
		for _, r := range [][4]int{{0, 0, 64, 64}, {0, 0, 2, 2}, {1, 0, 1, 1}, {1, 1, 5, 5}, {0, 0, 0, 0}, {0, 0, 0, 5}, {0, 0, 5, 0}, {0, 0, -1, 4}, {-1, -1, 2, 2}, {-5, -5, 5, 5}, {64, 0, 9, 9}, {0, 64, 9, 9}, {0, 0, largest, largest}, {smallest, smallest, largest, largest}, {1, 0, largest, 1}, {largest, largest, largest, largest}, {smallest, 0, smallest, 1}, {0, 0, smallest, smallest}} {
			check(t, u, r[0], r[1], r[2], r[3], samples)
		}
	}
}

func TestP45_1NoTriangle(t *testing.T) {
	for _, u := range []api.Triangle{
		{}, {V: [3]api.ScreenVertex{{}, {Y: 512}, {X: 512}}}, {V: [3]api.ScreenVertex{{}, {X: 256, Y: 256}, {X: 512, Y: 512}}}, {V: [3]api.ScreenVertex{{X: -1}, {X: 512}, {Y: 512}}}, {V: [3]api.ScreenVertex{{}, {X: 64*256 + 1}, {Y: 512}}}, {V: [3]api.ScreenVertex{{}, {X: largest}, {Y: largest}}}, {V: [3]api.ScreenVertex{{X: smallest, Y: smallest}, {X: largest}, {Y: largest}}},
	} {
		for _, samples := range []int{1, 2, 4, 8, 3} {
			if got := check(t, u, 0, 0, 64, 64, samples); len(got) > 0 {
				t.Errorf("%v has the fragments %v", u, got)
			}
		}
	}
	// A triangle between the centers of the pixels covers no sample.
	thin := api.Triangle{V: [3]api.ScreenVertex{{X: 10, Y: 10}, {X: 60, Y: 10}, {X: 10, Y: 60}}}
	if got := check(t, thin, 0, 0, 64, 64, 1); len(got) > 0 {
		t.Errorf("%v has the fragments %v", thin, got)
	}
}

func TestP45_1Arbitrary(t *testing.T) {
	s := state(1)
	count := 0
	for range 600 {
		x0, y0, width, height := s.next(14)-3, s.next(14)-3, s.next(16)-1, s.next(16)-1
		count += len(check(t, s.triangle([]int{1, 4, 12, 14}[s.next(4)]), x0, y0, width, height, 1<<s.next(4)))
	}
	if count < 600 {
		t.Errorf("there are only %d fragments", count)
	}
	for _, samples := range []int{1, 2, 4, 8} {
		all := api.Triangle{V: [3]api.ScreenVertex{{InvW: one}, {X: 64 * 256, InvW: one}, {Y: 64 * 256, InvW: one}}}
		check(t, all, 0, 0, 64, 64, samples)
	}
}

func TestP45_1Samples(t *testing.T) {
	for _, c := range []struct {
		masks []int
		want  int
	}{{nil, 0}, {[]int{0}, 0}, {[]int{1}, 1}, {[]int{255, 255, 3}, 18}, {[]int{256, 257, -1, smallest, largest}, 17}} {
		var list []api.Fragment
		for _, mask := range c.masks {
			list = append(list, api.Fragment{Mask: mask, Depths: []int{1, 2}})
		}
		if got := fragments.Samples(list); got != c.want {
			t.Errorf("the masks %v have %d samples", c.masks, got)
		}
	}
}

// fields returns all numbers of a fragment, in any depth.
func fields(v reflect.Value) []reflect.Value {
	var all []reflect.Value
	switch v.Kind() {
	case reflect.Int:
		return []reflect.Value{v}
	case reflect.Struct:
		for i := range v.NumField() {
			all = append(all, fields(v.Field(i))...)
		}
	case reflect.Slice:
		for i := range v.Len() {
			all = append(all, fields(v.Index(i))...)
		}
	}
	return all
}

func TestP45_1Equal(t *testing.T) {
	made := func() api.Fragment {
		return api.Fragment{X: 1, Y: 2, Mask: 3, Primitive: 4, Front: true, Depths: []int{5, 6}, Inputs: []int{7, 8, 9}}
	}
	for i := range fields(reflect.ValueOf(made())) {
		for _, by := range []int64{1, -1, 1 << 32, math.MinInt64} {
			a, b := made(), made()
			field := fields(reflect.ValueOf(&b).Elem())[i]
			field.SetInt(field.Int() + by)
			before := fmt.Sprint(a, b)
			if fragments.Equal(a, b) || fragments.Equal(b, a) || !fragments.Equal(a, made()) || fmt.Sprint(a, b) != before {
				t.Errorf("%v and %v are equal", a, b)
			}
		}
	}
	for _, change := range []func(f *api.Fragment){
		func(f *api.Fragment) { f.Front = false }, func(f *api.Fragment) { f.Depths = f.Depths[:1] }, func(f *api.Fragment) { f.Depths = nil }, func(f *api.Fragment) { f.Inputs = f.Inputs[:2] }, func(f *api.Fragment) { f.Inputs = append(f.Inputs, 0) }, func(f *api.Fragment) { *f = api.Fragment{} },
	} {
		a, b := made(), made()
		change(&b)
		if fragments.Equal(a, b) || fragments.Equal(b, a) {
			t.Errorf("%v and %v are equal", a, b)
		}
	}
	if !fragments.Equal(api.Fragment{}, api.Fragment{Depths: []int{}, Inputs: []int{}}) {
		t.Error("nil and empty lists are not equal")
	}
}

func TestP45_2ColorOf(t *testing.T) {
	for _, c := range []struct {
		outputs []int
		want    api.Vec4
	}{
		{nil, api.Vec4{}}, {[]int{}, api.Vec4{}}, {[]int{1}, api.Vec4{X: 1}}, {[]int{1, 2, 3}, api.Vec4{X: 1, Y: 2, Z: 3}}, {[]int{1, 2, 3, 4}, api.Vec4{X: 1, Y: 2, Z: 3, W: 4}}, {[]int{1, 2, 3, 4, 5}, api.Vec4{X: 1, Y: 2, Z: 3, W: 4}}, {[]int{most, most + 1, -most, -most - 1}, api.Vec4{X: most, Y: most, Z: -most, W: -most}}, {[]int{largest, smallest, 1 << 32, -1 << 32}, api.Vec4{X: most, Y: -most, Z: most, W: -most}},
	} {
		r := api.LaneResult{Outputs: c.outputs, Discarded: true, Emitted: [][]int{{9}}, Cuts: []int{1}}
		before := fmt.Sprint(r)
		if got := fragments.ColorOf(r); got != c.want || fmt.Sprint(r) != before {
			t.Errorf("the color of %v is %v, want %v", c.outputs, got, c.want)
		}
	}
}

// shaders are texts of fragment shaders.
var shaders = []string{
	"out o: vec4; main { }", "out o: vec4; main { o = vec4(1.0, 2.0, 3.0, 4.0); }", "in a: vec4; out o: vec4; out n: int; main { o = a; n = 5; }", "out a: fixed; out b: int; out c: vec3; main { a = 1.0; b = 2147483647; c = vec3(0.5, 0.25, 7.0); }",
	"uniform k: fixed; buffer b; in a: vec2; in n: int; out o: vec4; main { if (a.x < k) { discard; } loop 5 { if (a.y < o.x) { break; } o.x = o.x + 0.5; o.y = fixed(load(b, n)); } if (n > 0) { o.z = a.x * a.y; o.w = ddx(a).x + ddy(a).y; } else { discard; } }",
}

// expectedShade returns the color of a fragment and whether it is discarded, from a lane of its own.
func expectedShade(t *testing.T, p api.Program, b api.Bindings, f api.Fragment) (api.Vec4, bool) {
	t.Helper()
	r, code := lower.LaneOf(p, b, f.Inputs)
	if code != api.OK {
		t.Fatalf("the test is wrong: the program has error %d", code)
	}
	limited := func(x int) int { return min(max(x, -most), most) }
	return api.Vec4{X: limited(r.Outputs[0]), Y: limited(r.Outputs[1]), Z: limited(r.Outputs[2]), W: limited(r.Outputs[3])}, r.Discarded
}

func TestP45_2Shade(t *testing.T) {
	s := state(2)
	b := api.Bindings{Uniforms: []int{one / 4}, Buffers: [][]byte{{1, 2, 3, 4, 5, 6, 7, 8}}}
	gone := 0
	for _, text := range shaders {
		p := compile(t, text)
		for _, count := range []int{0, 1, 2, 15, 16, 17, 100, 1023, 1024, 1025, 2048, 3000} {
			list := make([]api.Fragment, count)
			for i := range list {
				list[i] = api.Fragment{X: s.next(64), Mask: s.next(2), Inputs: s.numbers(s.next(13))}
				if s.next(2) == 0 {
					list[i].Inputs = []int{s.next(one), s.next(3 * one), s.next(4) - 1, s.next(9), s.next(9), s.next(9), s.next(9), s.next(9), s.next(9)}
				}
			}
			before := fmt.Sprint(p, b, list)
			colors, discarded, code := fragments.Shade(p, b, list)
			if code != api.OK || len(colors) != count || len(discarded) != count || fmt.Sprint(p, b, list) != before {
				t.Fatalf("%d fragments have %d colors, error %d", count, len(colors), code)
			}
			for i, f := range list {
				color, isGone := expectedShade(t, p, b, f)
				if colors[i] != color || discarded[i] != isGone {
					t.Fatalf("the fragment %v has the color %v, discarded %t, want %v, %t", f, colors[i], discarded[i], color, isGone)
				}
				if isGone {
					gone++
				}
			}
		}
	}
	if gone < 1000 {
		t.Errorf("only %d fragments are discarded", gone)
	}
}

func TestP45_2ShadeErrors(t *testing.T) {
	good := compile(t, shaders[4])
	for name, p := range map[string]api.Program{
		"nothing": {}, "another stage": with(good, func(p *api.Program) { p.Stage = api.GeometryStage }), "no stage": with(good, func(p *api.Program) { p.Stage = 0 }), "three outputs": with(compile(t, "out o: vec3; main { }"), func(*api.Program) {}), "an unknown opcode": with(good, func(p *api.Program) { p.Code[0].Op = 99 }), "too few registers": with(good, func(p *api.Program) { p.Registers = 1 }), "too many outputs": with(good, func(p *api.Program) { p.Outputs = 33 }), "an open loop": with(good, func(p *api.Program) { p.Code = append(p.Code, api.Instr{Op: api.Loop, Imm: 1}) }), "no outputs": {Stage: api.FragmentStage}, "very few outputs": with(good, func(p *api.Program) { p.Outputs = smallest }),
		"the vertex stage": {Stage: api.VertexStage, Outputs: 4},
	} {
		for _, list := range [][]api.Fragment{nil, {}, {{Inputs: []int{1}}}, make([]api.Fragment, 2000)} {
			colors, discarded, code := fragments.Shade(p, api.Bindings{}, list)
			if code != api.ErrShader || colors != nil || discarded != nil {
				t.Errorf("a program with %s has the colors %v, error %d", name, colors, code)
			}
		}
	}
	if code := isa.Validate(good); code != api.OK {
		t.Errorf("the program was changed: error %d", code)
	}
}

// with returns a changed copy of a program.
func with(p api.Program, change func(p *api.Program)) api.Program {
	p.Code = slices.Clone(p.Code)
	change(&p)
	return p
}

// TestP45_3Rectangles divides an image into rectangles in several ways.
func TestP45_3Rectangles(t *testing.T) {
	s := state(3)
	for range 150 {
		size := []int{5, 16, 64}[s.next(3)]
		u, samples := s.triangle(size), 1<<s.next(4)
		whole := fragments.Generate(u, 0, 0, size, size, samples)
		for _, part := range []int{1, 3, 8, 13} {
			found := map[[2]int]api.Fragment{}
			for y := 0; y < size; y += part {
				for x := 0; x < size; x += 2 * part {
					for _, f := range fragments.Generate(u, x, y, 2*part, part, samples) {
						if _, twice := found[[2]int{f.X, f.Y}]; twice {
							t.Fatalf("the pixel of %v has two fragments", f)
						}
						found[[2]int{f.X, f.Y}] = f
					}
				}
			}
			if len(found) != len(whole) {
				t.Fatalf("%v has %d fragments, and %d in parts", u, len(whole), len(found))
			}
			for _, f := range whole {
				if !fragments.Equal(f, found[[2]int{f.X, f.Y}]) {
					t.Fatalf("the fragment %v is %v in a part", f, found[[2]int{f.X, f.Y}])
				}
			}
		}
	}
}
