package audit_test

import (
	"math"
	"testing"

	"frustum/api"
	"frustum/buffer"
	"frustum/compiler"
	"frustum/device"
	"frustum/image"
	"frustum/mipmap"
	"frustum/pipeline"
	"frustum/target"
)

const (
	one      = api.One
	largest  = math.MaxInt
	smallest = math.MinInt
)

// state makes arbitrary numbers.
type state uint64

func (s *state) next(beyond int) int {
	*s = *s*6364136223846793005 + 1442695040888963407
	return int(*s>>33) % beyond
}

// compile returns the program of a shader.
func compile(t *testing.T, text string) api.Program {
	t.Helper()
	p, line, code := compiler.Compile("shader "+text, 256)
	if code != api.OK {
		t.Fatalf("the test is wrong: %s has error %d in line %d", text, code, line)
	}
	return p
}

// numbers returns the bytes of 32-bit numbers.
func numbers(list ...int) []byte {
	var b []byte
	for _, n := range list {
		b = append(b, buffer.AppendAttribute(nil, api.Int1, []int{n})...)
	}
	return b
}

// texture returns a texture with arbitrary texels.
func (s *state) texture(f api.TexelFormat, width, height int) api.Texture {
	m, _ := image.New(f, width, height)
	for i := range m.Data {
		m.Data[i] = byte(s.next(256))
	}
	t, _ := mipmap.Chain(m)
	return t
}

// target returns a target with arbitrary contents.
func (s *state) target(f api.TexelFormat, d api.DepthFormat, width, height, samples int) api.Target {
	t, _ := target.New(width, height, samples, f, d)
	for _, m := range t.Color {
		for i := range m.Data {
			m.Data[i] = byte(s.next(256))
		}
	}
	for i := range t.Depths {
		if d != api.NoDepth {
			t.Depths[i] = s.next(65536)
		}
		if d == api.D24S8 {
			t.Stencils[i] = s.next(256)
		}
	}
	return t
}

// The size of the targets of a world.
const (
	wide = 6
	high = 5
)

// newWorld returns a device with the buffers 0 to 3, the textures 0 and 1, and for each of the IDs 0 and 1 a target and two pipelines that match it.
func newWorld(t *testing.T) *device.Device {
	t.Helper()
	d, s := device.New(), state(99)
	var positions []int
	for range 12 {
		positions = append(positions, s.next(4*one)-2*one, s.next(4*one)-2*one, s.next(one), one)
	}
	d.SetBuffer(0, numbers(positions...))
	d.SetBuffer(1, []byte{0, 1, 2, 255, 3, 4, 5, 6, 2, 1, 9, 8})
	d.SetBuffer(2, make([]byte, 500))
	d.SetTexture(0, s.texture(api.RGBA8, wide, high))
	d.SetTexture(1, s.texture(api.RGBA8, 4, 4))
	d.SetTarget(0, s.target(api.RGBA8, api.D24S8, wide, high, 4))
	d.SetTarget(1, s.target(api.R16F, api.NoDepth, wide, high, 1))
	p := pipeline.Default()
	p.Vertex = compile(t, "vertex; in a: vec4; out o: vec4; out v: vec2; main { o = a; v = vec2(a.x, a.y); }")
	p.Fragment = compile(t, "fragment; uniform c: vec4; texture s; in v: vec2; out o: vec4; main { o = sample(s, v, 0.0) + c; if (v.x > v.y * 3.0) { discard; } }")
	p.Viewport.Width, p.Viewport.Height = wide, high
	p.Samples, p.DepthFormat, p.Topology = 4, api.D24S8, api.TriangleStrip
	p.Depth = api.DepthState{Test: true, Write: true, Compare: api.LessOrEqual}
	p.Stencil.Test, p.Stencil.Reference = true, 3
	p.Stencil.Front = api.StencilFace{Compare: api.Different, Fail: api.IncrementWrap, DepthFail: api.IncrementWrap, Pass: api.IncrementWrap}
	p.Stencil.Back = api.StencilFace{Compare: api.GreaterThan, Fail: api.DecrementWrap, DepthFail: api.InvertValue, Pass: api.IncrementWrap}
	p.Blend.Enable, p.Blend.SourceColor, p.Blend.TargetColor = true, api.SourceAlpha, api.OneMinusSourceAlpha
	first := d.SetPipeline(0, p)
	p.Stencil.Test, p.Cull = false, api.CullBack
	second := d.SetPipeline(2, p)
	p.Samples, p.DepthFormat, p.Format, p.Cull = 1, api.NoDepth, api.R16F, api.CullNone
	third := d.SetPipeline(1, p)
	p.Depth.Test, p.Blend.Enable, p.Topology = false, false, api.TriangleList
	if fourth := d.SetPipeline(3, p); first+second+third+fourth != api.OK {
		t.Fatalf("the test is wrong: the pipelines have the errors %d, %d, %d and %d", first, second, third, fourth)
	}
	return d
}

var point = api.Sampler{AddressU: api.Repeat, AddressV: api.Mirror, Magnify: api.Nearest, Minify: api.Nearest, Mipmap: api.Nearest}

func bindTexture(slot, id int) api.Command {
	return api.Command{Kind: api.BindTexture, Slot: slot, ID: id, Sampler: point}
}

func bind(id int) api.Command {
	return api.Command{Kind: api.BindPipeline, ID: id}
}

func bindVertex(slot, id int) api.Command {
	return api.Command{Kind: api.BindVertex, Slot: slot, ID: id}
}

func wall(id int, from, to api.ResourceState) api.Command {
	return api.Command{Kind: api.Barrier, ID: id, From: from, To: to}
}

func begin(id int) api.Command {
	return api.Command{Kind: api.BeginPass, ID: id, Clear: api.Vec4{X: one / 3, Y: one / 5, W: one}, ClearDepth: one, ClearStencil: 3}
}

func load(id int) api.Command {
	return api.Command{Kind: api.BeginPass, ID: id, LoadContents: true}
}

func draw(first, count int) api.Command {
	return api.Command{Kind: api.Draw, First: first, Count: count}
}

func uniforms(first int, values ...int) api.Command {
	return api.Command{Kind: api.SetUniforms, First: first, Values: values}
}

func query(id int) api.Command {
	return api.Command{Kind: api.BeginQuery, ID: id}
}

func endQuery(id int) api.Command {
	return api.Command{Kind: api.EndQuery, ID: id}
}

func copying(texture, buffer int) api.Command {
	return api.Command{Kind: api.CopyToImage, ID: texture, Slot: buffer}
}

func resolving(target, texture int) api.Command {
	return api.Command{Kind: api.Resolve, ID: target, Slot: texture}
}

var end = api.Command{Kind: api.EndPass}

// commands returns a list of commands without errors for a world. Texture 0 changes between the passes, also by resolving a target into it.
func (s *state) commands(passes int) []api.Command {
	list := []api.Command{wall(1, 1, 2), bindVertex(0, 0), bindTexture(0, 1), uniforms(0, s.next(one), s.next(one))}
	queries := 0
	for range passes {
		switch s.next(4) {
		case 0:
			list = append(list, wall(0, 1, 5), resolving(0, 0), wall(0, 5, 2), bindTexture(0, 0))
		case 1:
			list = append(list, wall(1, 1, 5), copying(1, 2*s.next(2)), wall(1, 1, 2), bindTexture(0, 1))
		}
		id := s.next(2)
		list = append(list, bind(id+2*s.next(2)), []api.Command{begin(id), load(id)}[s.next(2)])
		for range s.next(4) {
			switch s.next(5) {
			case 0:
				list = append(list, uniforms(s.next(4), s.next(2*one)-one))
			case 1:
				list = append(list, api.Command{Kind: api.BindIndex, ID: []int{1, 7}[s.next(2)], Index: api.IndexType(1 + s.next(2))})
			case 2:
				list = append(list, bind(id+2*s.next(2)))
			}
			if s.next(3) == 0 && queries < 8 {
				list = append(list, query(queries), draw(0, 3), endQuery(queries))
				queries++
			}
			list = append(list, draw(s.next(4), 1+s.next(12)))
		}
		list = append(list, end)
	}
	return list
}
