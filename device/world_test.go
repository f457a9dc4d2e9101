package device_test

import (
	"fmt"
	"slices"
	"testing"

	"frustum/api"
	"frustum/barrier"
	"frustum/buffer"
	"frustum/command"
	"frustum/compiler"
	"frustum/device"
	"frustum/fragments"
	"frustum/frontend"
	"frustum/image"
	"frustum/mipmap"
	"frustum/output"
	"frustum/pipeline"
	"frustum/resolve"
	"frustum/target"
)

// compile returns the program of a shader.
func compile(t *testing.T, text string) api.Program {
	t.Helper()
	p, line, code := compiler.Compile("shader "+text, 256)
	if code != api.OK {
		t.Fatalf("the test is wrong: %s has error %d in line %d", text, code, line)
	}
	return p
}

// numbers returns the bytes of 32-bit numbers.
func numbers(list ...int) []byte {
	var b []byte
	for _, n := range list {
		b = append(b, buffer.AppendAttribute(nil, api.Int1, []int{n})...)
	}
	return b
}

// The size of the targets 1 and 2 of a world.
const (
	wide = 11
	high = 9
)

// newWorld returns a device with some of everything: the buffers 0 to 4, the textures 0 to 3, the targets 0 to 2 and the pipelines 0 to 3.
func newWorld(t *testing.T) *device.Device {
	t.Helper()
	d, s := device.New(), state(99)
	var positions []int
	for range 12 {
		positions = append(positions, s.next(3*one)-3*one/2, s.next(3*one)-3*one/2, s.next(one), one)
	}
	d.SetBuffer(0, numbers(positions...))
	d.SetBuffer(1, []byte{0, 1, 2, 255, 3, 4, 5, 6, 2, 1, 9, 8})
	d.SetBuffer(2, numbers(-one, -one, 0, one, one, -one, one/2, one, -one, one, one, one, one, one, 0, one))
	picture := make([]byte, 2000)
	for i := range picture {
		picture[i] = byte(s.next(256))
	}
	d.SetBuffer(3, picture)
	d.SetBuffer(4, numbers(5, 4, 3, 2, 1, 0))
	d.SetTexture(0, s.texture(api.RGBA8, 4, 4))
	d.SetTexture(1, s.texture(api.RGBA8, wide, high))
	d.SetTexture(2, api.Texture{Levels: s.texture(api.R8, 8, 8).Levels[:1]})
	d.SetTexture(3, s.texture(api.RGBA8, wide, high))
	d.SetTarget(0, s.target(api.R8, api.NoDepth, 8, 8, 1))
	d.SetTarget(1, s.target(api.RGBA8, api.D24S8, wide, high, 4))
	d.SetTarget(2, s.target(api.RGBA8, api.D16, wide, high, 2))
	setPipelines(t, d)
	return d
}

// setPipelines sets the pipelines of a world.
func setPipelines(t *testing.T, d *device.Device) {
	t.Helper()
	p := pipeline.Default()
	p.Viewport.Width, p.Viewport.Height, p.Format = 8, 8, api.R8
	d.SetPipeline(0, p)
	p = pipeline.Default()
	p.Vertex = compile(t, "vertex; uniform k: fixed; buffer b; in a: vec4; out o: vec4; out v: vec2; main { o = a; v = vec2(a.x * k, fixed(load(b, 1)) * 0.3); }")
	p.Fragment = compile(t, "fragment; uniform k: fixed; uniform c: vec4; texture s; texture q; in v: vec2; out o: vec4; main { o = sample(s, v, 0.0) + c; o.z = o.z + fetch(q, 1, 2, 0).x; if (v.x > k) { discard; } }")
	p.Samples, p.DepthFormat, p.Topology = 4, api.D24S8, api.TriangleStrip
	p.Viewport.Width, p.Viewport.Height = wide, high
	p.Depth = api.DepthState{Test: true, Write: true, Compare: api.LessOrEqual}
	p.Stencil.Test, p.Stencil.Front.Pass, p.Stencil.Back.DepthFail = true, api.IncrementWrap, api.InvertValue
	d.SetPipeline(1, p)
	p.Samples, p.DepthFormat, p.Topology = 2, api.D16, api.TriangleList
	p.Blend.Enable, p.Blend.SourceColor, p.Blend.TargetColor = true, api.SourceAlpha, api.OneMinusSourceAlpha
	p.Viewport.X, p.Viewport.Width = 2, wide-2
	d.SetPipeline(2, p)
	p.HasGeometry = true
	p.Geometry = compile(t, "geometry; in a: vec4; in u: vec2; in b: vec4; in v: vec2; in c: vec4; in w: vec2; out o: vec4; out x: vec2; main { o = a; x = u; emit; o = b; emit; o = c; x = w; emit; o = vec4(a.x * 0.5, b.y * 0.5, 0.25, 1.0); emit; }")
	if code := d.SetPipeline(3, p); code != api.OK {
		t.Fatalf("the test is wrong: the pipeline has error %d", code)
	}
}

// world is a second reading of P50.3: what a device has, and what its commands have bound.
type world struct {
	buffers   map[int][]byte
	textures  map[int]api.Texture
	targets   map[int]api.Target
	pipelines map[int]api.Pipeline
	states    []api.ResourceState
	queries   map[int]int
	bound     map[string]api.Command
	uniforms  [64]int
	pass      int
	query     int
}

// worldOf returns what a device has.
func worldOf(d *device.Device) *world {
	w := world{map[int][]byte{}, map[int]api.Texture{}, map[int]api.Target{}, map[int]api.Pipeline{}, d.States(), map[int]int{}, map[string]api.Command{}, [64]int{}, 0, -1}
	for id := range 8 {
		w.buffers[id] = d.Buffer(id)
		if t, found := d.Texture(id); found {
			w.textures[id] = t
		}
		if t, found := d.Target(id); found {
			w.targets[id] = t
		}
		if p, found := d.Pipeline(id); found {
			w.pipelines[id] = p
		}
		if n, found := d.Query(id); found {
			w.queries[id] = n
		}
	}
	return &w
}

// check is a second reading of P50.2.
func (w *world) check(list []api.Command) (int, api.Errno) {
	if _, at, code := barrier.Check(list, w.states); code != api.OK {
		return at, code
	}
	for i, c := range list {
		if code := w.errorOf(list[:i], c); code != api.OK {
			return i, code
		}
	}
	return len(list), api.OK
}

// last returns the last command of a kind.
func last(list []api.Command, k api.CommandKind) api.Command {
	for i := len(list) - 1; i >= 0; i-- {
		if list[i].Kind == k {
			return list[i]
		}
	}
	return api.Command{}
}

// errorOf returns the error of a command behind others.
func (w *world) errorOf(before []api.Command, c api.Command) api.Errno {
	_, hasPipeline := w.pipelines[c.ID]
	_, hasTarget := w.targets[c.ID]
	texture, hasTexture := w.textures[c.ID]
	slot, hasSlot := w.textures[c.Slot]
	t := w.targets[c.ID]
	switch c.Kind {
	case api.BindPipeline:
		return map[bool]api.Errno{false: api.ErrNotFound}[hasPipeline]
	case api.BindTexture, api.Barrier:
		return map[bool]api.Errno{false: api.ErrNotFound}[hasTexture]
	case api.BeginPass:
		return map[bool]api.Errno{false: api.ErrNotFound}[hasTarget]
	case api.CopyToImage:
		if !hasTexture {
			return api.ErrNotFound
		}
		if len(w.buffers[c.Slot]) < len(texture.Levels[0].Data) {
			return api.ErrSize
		}
	case api.Resolve:
		if !hasTarget || !hasSlot {
			return api.ErrNotFound
		}
		if m, n := t.Color[0], slot.Levels[0]; m.Format != n.Format || m.Width != n.Width || m.Height != n.Height {
			return api.ErrFormat
		}
	case api.Draw:
		if !pipeline.Matches(w.pipelines[last(before, api.BindPipeline).ID], w.targets[last(before, api.BeginPass).ID]) {
			return api.ErrTarget
		}
	}
	return api.OK
}

// run executes commands without errors.
func (w *world) run(list []api.Command) {
	for _, c := range list {
		switch c.Kind {
		case api.BindPipeline, api.BindIndex:
			w.bound[command.Name(c.Kind)] = c
		case api.BindVertex, api.BindBuffer, api.BindTexture:
			w.bound[fmt.Sprint(command.Name(c.Kind), c.Slot)] = c
		case api.SetUniforms:
			for i, x := range c.Values {
				w.uniforms[c.First+i] = x
			}
		case api.BeginPass:
			w.pass = c.ID
			if !c.LoadContents {
				w.targets[c.ID] = target.Clear(w.targets[c.ID], c.Clear, c.ClearDepth, c.ClearStencil)
			}
		case api.Draw:
			w.draw(c)
		case api.BeginQuery:
			w.query, w.queries[c.ID] = c.ID, 0
		case api.EndQuery:
			w.query = -1
		case api.Barrier:
			w.states[c.ID] = c.To
		case api.CopyToImage:
			m := image.Clone(w.textures[c.ID].Levels[0])
			for i := range m.Data {
				m.Data[i] = w.buffers[c.Slot][i]
			}
			w.textures[c.ID], _ = mipmap.Chain(m)
		case api.Resolve:
			m, _ := resolve.Images(w.targets[c.ID].Color)
			w.textures[c.Slot], _ = mipmap.Chain(m)
		}
	}
	w.bound, w.uniforms = map[string]api.Command{}, [64]int{}
}

// draw executes a draw, fragment by fragment of the whole target.
func (w *world) draw(c api.Command) {
	p := w.pipelines[w.bound["bind-pipeline"].ID]
	var vertices [][]byte
	b := api.Bindings{Uniforms: w.uniforms[:]}
	for slot := range 4 {
		if v, found := w.bound[fmt.Sprint("bind-vertex", slot)]; found {
			vertices = append(vertices, w.buffers[v.ID])
		} else {
			vertices = append(vertices, nil)
		}
		if v, found := w.bound[fmt.Sprint("bind-buffer", slot)]; found {
			b.Buffers = append(b.Buffers, w.buffers[v.ID])
		} else {
			b.Buffers = append(b.Buffers, nil)
		}
		v := w.bound[fmt.Sprint("bind-texture", slot)]
		b.Samplers = append(b.Samplers, v.Sampler)
		if v.Kind != 0 {
			b.Textures = append(b.Textures, w.textures[v.ID])
		} else {
			b.Textures = append(b.Textures, api.Texture{})
		}
	}
	indices := frontend.Indices(nil, api.NoIndex, c.First, c.Count)
	if v, found := w.bound["bind-index"]; found {
		indices = frontend.Indices(w.buffers[v.ID], v.Index, c.First, c.Count)
	}
	triangles, _ := frontend.Triangles(p, b, vertices, indices)
	t, count := w.targets[w.pass], 0
	for _, u := range triangles {
		list := fragments.Generate(u, 0, 0, t.Width, t.Height, t.Samples)
		colors, discarded, _ := fragments.Shade(p.Fragment, b, list)
		for i, f := range list {
			n := 0
			t, n = output.Fragment(p, t, f, colors[i], discarded[i])
			count += n
		}
	}
	w.targets[w.pass] = t
	if w.query >= 0 {
		w.queries[w.query] += count
	}
}

// compare checks that a device has what a world has.
func (w *world) compare(t *testing.T, d *device.Device, name string) {
	t.Helper()
	if got := d.States(); !slices.Equal(got, w.states) {
		t.Fatalf("%s: the states are %v, want %v", name, got, w.states)
	}
	for id := range 8 {
		if got := d.Buffer(id); !slices.Equal(got, w.buffers[id]) {
			t.Fatalf("%s: buffer %d has changed", name, id)
		}
		u, found := d.Texture(id)
		if want, exists := w.textures[id]; found != exists || !mipmap.Equal(u, want) {
			t.Fatalf("%s: texture %d is %v, want %v", name, id, u, want)
		}
		v, found := d.Target(id)
		if want, exists := w.targets[id]; found != exists || !target.Equal(v, want) {
			t.Fatalf("%s: target %d is %v, want %v", name, id, v, want)
		}
		p, found := d.Pipeline(id)
		if want, exists := w.pipelines[id]; found != exists || !pipeline.Equal(p, want) {
			t.Fatalf("%s: pipeline %d has changed", name, id)
		}
		n, found := d.Query(id)
		if want, exists := w.queries[id]; found != exists || n != want {
			t.Fatalf("%s: query %d is %d, %t, want %d, %t", name, id, n, found, want, exists)
		}
	}
}
