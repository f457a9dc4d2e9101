package audit_test

import (
	"fmt"
	"slices"
	"testing"
	"time"

	"frustum/api"
	"frustum/audit"
	"frustum/device"
	"frustum/edge"
	"frustum/parser"
	"frustum/target"
	"frustum/types"
)

// written returns all that can change in a device.
func written(d *device.Device) string {
	text := fmt.Sprint(d.States(), d.Hash())
	for id := range 8 {
		n, found := d.Query(id)
		text += fmt.Sprint(n, found)
	}
	return text
}

func TestP53_1Names(t *testing.T) {
	want := []string{"targets", "textures", "pipelines", "states", "copy"}
	got := audit.Names()
	if !slices.Equal(got, want) {
		t.Errorf("the names are %v", got)
	}
	got[0] = "x"
	if !slices.Equal(audit.Names(), want) {
		t.Error("two results share memory")
	}
}

func TestP53_1Device(t *testing.T) {
	for _, d := range []*device.Device{nil, {}, new(device.Device), device.New(), device.New().Clone(), newWorld(t), newWorld(t).Clone()} {
		before := written(d)
		if got := audit.Device(d); got != "" || written(d) != before {
			t.Errorf("the check %q fails", got)
		}
	}
}

// TestP53_5Device audits a device after each of many submissions, right and wrong ones.
func TestP53_5Device(t *testing.T) {
	d, s := newWorld(t), state(1)
	codes := map[api.Errno]bool{}
	for i := range 150 {
		list := s.commands(1 + s.next(4))
		if s.next(3) == 0 {
			wrong := []api.Command{bind(7), wall(5, 1, 2), wall(0, 3, 4), copying(1, 1), {}, end, begin(4), draw(0, 3), resolving(1, 0)}[s.next(9)]
			list = slices.Insert(list, s.next(len(list)+1), wrong)
		}
		var code api.Errno
		if i%2 == 0 {
			_, code = d.Submit(list)
		} else {
			_, code = d.SubmitShuffled(list, uint64(i), s.next(10))
		}
		codes[code] = true
		// Some objects are replaced, or refused.
		id := s.next(8)
		d.SetTexture(id, s.texture(api.TexelFormat(s.next(8)), s.next(9), s.next(9)))
		d.SetTexture(1, s.texture(api.RGBA8, 4, 4))
		d.SetTexture(0, s.texture(api.RGBA8, wide, high))
		if p, found := d.Pipeline(id); found {
			p.Cull = api.CullMode(s.next(5))
			d.SetPipeline(7, p)
		}
		d.SetTarget(6+s.next(2), api.Target{})
		if got := audit.Device(d); got != "" {
			t.Fatalf("the check %q fails after %v", got, list)
		}
	}
	if len(codes) < 6 {
		t.Errorf("the only errors are %v", codes)
	}
}

func TestP53_2Schedules(t *testing.T) {
	d, s := newWorld(t), state(2)
	before := written(d)
	states := []uint64{0, 1, 1 << 63, 1<<64 - 1, 77, 78, 79, 80, 81, 82}
	for range 25 {
		list := s.commands(1 + s.next(4))
		if s.next(3) == 0 {
			list = append(list, []api.Command{bind(7), {}, end, begin(1), draw(0, 3)}[s.next(5)])
		}
		text := fmt.Sprint(list)
		if !audit.Schedules(d, list, states[s.next(8):], 1+s.next(8)) || fmt.Sprint(list) != text || written(d) != before {
			t.Fatalf("the schedules of %v differ", list)
		}
	}
	for _, workers := range []int{0, -1, 9, 10, 1 << 32, 1<<32 + 1, largest, smallest} {
		if !audit.Schedules(d, s.commands(2), states, workers) || !audit.Schedules(nil, nil, states, workers) {
			t.Errorf("the schedules of %d workers differ", workers)
		}
	}
	for _, d := range []*device.Device{nil, {}, device.New()} {
		for _, list := range [][]api.Command{nil, {}, {{}}, {begin(0), end}, make([]api.Command, 300)} {
			for _, states := range [][]uint64{nil, {}, {5}} {
				if !audit.Schedules(d, list, states, 3) {
					t.Errorf("the schedules of %v differ", list)
				}
			}
		}
	}
	if written(d) != before {
		t.Error("the device was changed")
	}
}

// TestP53_2Limit has far more states than there is time for.
func TestP53_2Limit(t *testing.T) {
	d, begun := newWorld(t), time.Now()
	list := []api.Command{wall(1, 1, 2), bindTexture(0, 1), bindVertex(0, 0), bind(0), begin(0), draw(0, 12), end}
	if !audit.Schedules(d, list, make([]uint64, 1000000), 8) || time.Since(begun) > time.Minute {
		t.Error("the schedules differ, or too many are examined")
	}
}

// shaders are texts of modules.
var shaders = []string{
	"shader vertex; main { }", "shader vertex; out o: vec4; main { o = vec4(1.0, 2.0, 3.0, 4.0); }", "shader vertex; in a: vec3; in n: int; in b: bool; in h: half; out o: vec3; out i: int; out c: bool; out k: half; main { o = a * 2.0; i = n * n; c = !b; k = h * h; }",
	"shader vertex; struct Pair { n: int; v: vec2; } uniform u: Pair; uniform b: bool; in k: Pair; out o: Pair; fn sum(a: Pair, c: Pair) -> Pair { let d: Pair = a; d.n = a.n + c.n; d.v = a.v + c.v; return d; } main { o = sum(u, k); if (b) { o.v.x = 7.0; } else { o.n = o.n - 1; } }",
	"shader vertex; in n: int; in a: vec4; out o: vec4; out s: int; main { loop 16 { if (n > s) { s = s + 1; continue; } loop 3 { s = s + 100; if (a[s & 3] > 0.0) { break; } o[s & 3] = o.x + 1.0; } if (s > 1000) { break; } } }",
	"shader vertex; buffer b; texture t; in n: int; in v: vec2; out o: vec4; out i: int; main { o = sample(t, v, v.x) + fetch(t, n, n, 0); i = load(b, n); }",
	"shader fragment; in v: vec2; in n: int; out o: vec4; main { o = vec4(ddx(v), ddy(v)); if (v.x < v.y) { discard; } if (n == 3) { o.x = 5.0; discard; } }",
	"shader fragment; uniform m: fixed; in v: vec4; out o: vec4; fn wave(x: fixed) -> fixed { let y: fixed = fract(x) - 0.5; return y * y * m; } main { o = clamp(mix(v, vec4(wave(v.x), wave(v.y), wave(v.z), sqrt(abs(v.w))), 0.25), vec4(0.0, 0.0, 0.0, 0.0), vec4(1.0, 1.0, 1.0, 1.0)); o.w = dot(v, o) / m; }",
	"shader geometry; in p: vec4; in q: vec4; in n: int; out o: vec4; main { o = p; emit; o = q; emit; loop 10 { o = mix(p, q, o.x); emit; if ((n & 3) == 1) { cut; } if (n < 0) { break; } } }",
	"shader vertex; in a: int; in c: int; out o: int; out p: int; out q: int; out r: int; main { o = a / c; p = a % c; q = (a << c) ^ (a >> c); r = -a | !c & a; }",
}

// numbers returns some numbers of any magnitude.
func (s *state) numbers(count int) []int {
	list := make([]int, count)
	for i := range list {
		list[i] = []int{0, 1, -1, 2, 3, one, -one, one / 2, s.next(5 * one), 1 << 31, -1 << 31, largest, smallest, 1 << 40}[s.next(14)]
	}
	return list
}

func TestP53_3Shader(t *testing.T) {
	s := state(3)
	smooth := api.Sampler{AddressU: api.Mirror, AddressV: api.ClampBorder, Magnify: api.Linear, Minify: api.Linear, Mipmap: api.Linear, MaxLOD: 2 * one}
	bindings := []api.Bindings{{}, {Uniforms: s.numbers(9), Textures: []api.Texture{s.texture(api.RGBA8, 4, 4)}, Samplers: []api.Sampler{smooth}, Buffers: [][]byte{numbers(s.numbers(9)...)}}, {Uniforms: s.numbers(2), Textures: make([]api.Texture, 1), Samplers: make([]api.Sampler, 1), Buffers: make([][]byte, 1)}}
	for _, text := range shaders {
		m, line, code := parser.Parse(text)
		if code == api.OK {
			code = types.Check(m)
		}
		if code != api.OK {
			t.Fatalf("the test is wrong: %s has error %d in line %d", text, code, line)
		}
		for _, b := range bindings {
			for _, count := range []int{0, 1, 15, 16, 17} {
				inputs := make([][]int, count)
				for i := range inputs {
					inputs[i] = s.numbers(s.next(20))
				}
				before := fmt.Sprint(m, b, inputs)
				if !audit.Shader(m, b, inputs) || fmt.Sprint(m, b, inputs) != before {
					t.Errorf("the results of %s differ for %v", text, inputs)
				}
			}
		}
		if !audit.Shader(m, api.Bindings{}, nil) || !audit.Shader(m, api.Bindings{}, [][]int{nil}) {
			t.Errorf("the results of %s differ without inputs", text)
		}
	}
}

// TestP53_3Wrong has modules that are rejected.
func TestP53_3Wrong(t *testing.T) {
	wrong := []api.Module{{}, {Stage: 9}, {Stage: api.VertexStage, Main: []api.Stmt{{}}}, {Stage: api.VertexStage, Main: []api.Stmt{{Kind: api.EmitStmt}}}, {Stage: api.FragmentStage, Inputs: []api.Field{{Name: "a"}}}, {Stage: api.VertexStage, Main: make([]api.Stmt, 2000)}}
	for _, m := range wrong {
		if types.Check(m) == api.OK {
			t.Fatalf("the test is wrong: %v has no error", m)
		}
		for _, inputs := range [][][]int{nil, {nil}, {{1, 2, 3}}} {
			if !audit.Shader(m, api.Bindings{}, inputs) {
				t.Errorf("the results of %v differ", m)
			}
		}
	}
}

// TestP53_3Limit has far more inputs than there is time for.
func TestP53_3Limit(t *testing.T) {
	m, _, _ := parser.Parse(shaders[4])
	begun := time.Now()
	if !audit.Shader(m, api.Bindings{}, slices.Repeat([][]int{{500, 1, 2, 3, 4}}, 1000000)) || time.Since(begun) > time.Minute {
		t.Error("the results differ, or too many inputs are examined")
	}
}

func TestP53_4Pixel(t *testing.T) {
	d, s := newWorld(t), state(4)
	before := written(d)
	for range 60 {
		list := s.commands(1 + s.next(4))
		if s.next(4) == 0 {
			list = append(list, []api.Command{bind(7), {}, end, begin(1), draw(0, 3)}[s.next(5)])
		}
		text := fmt.Sprint(list)
		if !audit.Pixel(d, list, s.next(3), s.next(wide+1), s.next(high+1)) || fmt.Sprint(list) != text || written(d) != before {
			t.Fatalf("the history of a pixel is wrong after %v", list)
		}
	}
	for _, n := range []int{-1, 8, 64, 1 << 32, largest, smallest} {
		list := []api.Command{begin(0), end}
		if !audit.Pixel(d, list, n, 0, 0) || !audit.Pixel(d, list, 0, n, 0) || !audit.Pixel(d, list, 0, 0, n) || !audit.Pixel(nil, list, n, n, n) {
			t.Errorf("the history with the number %d is wrong", n)
		}
	}
	for _, d := range []*device.Device{nil, {}, device.New()} {
		if !audit.Pixel(d, nil, 0, 0, 0) || !audit.Pixel(d, []api.Command{begin(0), end}, 0, 0, 0) {
			t.Error("the history of a device without targets is wrong")
		}
	}
}

// TestP53_4Formats has a target whose texels have colors with several bytes.
func TestP53_4Formats(t *testing.T) {
	for f := api.R8; f <= api.RGBA16F; f++ {
		d, s := device.New(), state(f)
		d.SetTarget(0, s.target(f, api.NoDepth, 3, 3, 2))
		list := []api.Command{begin(0), end, load(0), end}
		for range 20 {
			if !audit.Pixel(d, list, 0, s.next(3), s.next(3)) || !audit.Pixel(d, list[2:], 0, s.next(3), s.next(3)) {
				t.Errorf("the history in the format %d is wrong", f)
			}
		}
	}
}

func TestP53_4Coverage(t *testing.T) {
	s := state(5)
	valid := 0
	for range 400 {
		var u api.Triangle
		beyond := []int{2048, 16385, 17000}[s.next(3)]
		for i := range u.V {
			u.V[i] = api.ScreenVertex{X: s.next(beyond) - s.next(2)*100, Y: s.next(beyond), InvW: one, Varyings: []int{s.next(one)}}
			if s.next(2) == 0 {
				u.V[i].X, u.V[i].Y = u.V[i].X/2048*2048, u.V[i].Y/2048*2048
			}
		}
		if edge.Valid(u) {
			valid++
		}
		width, height := 1+s.next(64), 1+s.next(64)
		before := fmt.Sprint(u)
		if !audit.Coverage(u, width, height, 1<<s.next(4)) || fmt.Sprint(u) != before {
			t.Errorf("the tiles of %dx%d pixels have other samples of %v", width, height, u)
		}
	}
	if valid < 80 {
		t.Errorf("only %d triangles are valid", valid)
	}
	u := api.Triangle{V: [3]api.ScreenVertex{{}, {X: 16384}, {Y: 16384}}}
	for _, n := range []int{-1, 0, 1, 3, 5, 8, 64, 65, 100, 1 << 32, largest, smallest} {
		for _, samples := range []int{1, 8, 0, 3, -1, 16, largest, smallest} {
			if !audit.Coverage(u, n, 9, samples) || !audit.Coverage(u, 9, n, samples) || !audit.Coverage(u, n, n, samples) || !audit.Coverage(api.Triangle{}, n, n, samples) {
				t.Errorf("the tiles of an image of the size %d with %d samples have other samples", n, samples)
			}
		}
	}
}

// TestP53_5Large audits the largest objects.
func TestP53_5Large(t *testing.T) {
	d, s := newWorld(t), state(6)
	for id := range 8 {
		u, _ := target.New(64, 64, 8, api.RGBA16F, api.D24S8)
		d.SetTarget(id, u)
		d.SetTexture(id, s.texture(api.RGBA16F, 64, 64))
		d.SetBuffer(id, make([]byte, 65536))
	}
	list := []api.Command{begin(3), end, wall(2, 1, 5), resolving(3, 2)}
	if got := audit.Device(d); got != "" || !audit.Schedules(d, list, []uint64{1, 2}, 8) || !audit.Pixel(d, list, 3, 63, 63) {
		t.Errorf("the check %q fails", got)
	}
}
