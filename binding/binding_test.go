package binding_test

import (
	"fmt"
	"math"
	"slices"
	"testing"

	"frustum/api"
	"frustum/binding"
	"frustum/buffer"
	"frustum/image"
	"frustum/mipmap"
	"frustum/pipeline"
)

const one = api.One

// store holds the buffers 0 to 7, the textures 0 to 6 and the pipelines 0 to 6, each of which differs from the others.
type store struct{}

func (store) Buffer(id int) []byte {
	if id < 0 || id > 7 {
		return nil
	}
	// The vertices of a triangle, and as many indices.
	var b []byte
	for _, n := range []int{-one, -one, id, one, one, -one, id, one, -one, one, id, one} {
		b = append(b, buffer.AppendAttribute(nil, api.Int1, []int{n})...)
	}
	return append(b, byte(id), 1, 2)
}

func (store) Texture(id int) (api.Texture, bool) {
	if id < 0 || id > 6 {
		return api.Texture{}, false
	}
	m, _ := image.New(api.R8, 1+id, 1)
	t, _ := mipmap.Chain(m)
	return t, true
}

func (store) Pipeline(id int) (api.Pipeline, bool) {
	if id < 0 || id > 6 {
		return api.Pipeline{}, false
	}
	p := pipeline.Default()
	p.Viewport.Width = 1 + id
	p.Attributes[0].Buffer = id % 4
	return p, true
}

var point = api.Sampler{AddressU: 1, AddressV: 2, Magnify: 1, Minify: 2, Mipmap: 1}

// check draws three vertices, and checks what they are drawn with.
func check(t *testing.T, s *binding.State, viewport, triangles int, want api.Bindings) binding.Draw {
	t.Helper()
	d, code := s.Draw(store{}, 0, 3)
	if code != api.OK || d.Pipeline.Viewport.Width != viewport || len(d.Triangles) != triangles || fmt.Sprint(d.Bindings) != fmt.Sprint(want) {
		t.Errorf("the draw is %+v, error %d, want the bindings %v", d, code, want)
	}
	return d
}

// nothing returns the bindings without commands.
func nothing() api.Bindings {
	return api.Bindings{Uniforms: make([]int, 64), Textures: make([]api.Texture, 4), Samplers: make([]api.Sampler, 4), Buffers: make([][]byte, 4)}
}

func TestP50_3Nothing(t *testing.T) {
	s := binding.New()
	if d, code := s.Draw(store{}, 0, 3); code != api.ErrPipeline || fmt.Sprint(d) != fmt.Sprint(binding.Draw{}) {
		t.Errorf("a draw without a pipeline is %v, error %d", d, code)
	}
	s.Bind(api.Command{Kind: api.BindPipeline, ID: 7})
	if _, code := s.Draw(store{}, 0, 3); code != api.ErrPipeline {
		t.Errorf("a draw with a pipeline that does not exist has error %d", code)
	}
	s.Bind(api.Command{Kind: api.BindPipeline, ID: 4})
	check(t, s, 5, 0, nothing())
}

func TestP50_3Bind(t *testing.T) {
	s, want := binding.New(), nothing()
	s.Bind(api.Command{Kind: api.BindPipeline, ID: 2})
	s.Bind(api.Command{Kind: api.BindVertex, Slot: 2, ID: 5})
	if d := check(t, s, 3, 1, want); d.Triangles[0].V[0].Z != 5 {
		t.Errorf("the triangle is %v", d.Triangles)
	}
	s.Bind(api.Command{Kind: api.BindTexture, Slot: 3, ID: 4, Sampler: point})
	want.Textures[3], _ = store{}.Texture(4)
	want.Samplers[3] = point
	check(t, s, 3, 1, want)
	s.Bind(api.Command{Kind: api.BindTexture, Slot: 0, ID: 7, Sampler: point})
	want.Samplers[0] = point
	check(t, s, 3, 1, want)
	s.Bind(api.Command{Kind: api.BindBuffer, Slot: 1, ID: 6})
	want.Buffers[1] = store{}.Buffer(6)
	check(t, s, 3, 1, want)
	s.Bind(api.Command{Kind: api.SetUniforms, First: 62, Values: []int{7, 8}})
	s.Bind(api.Command{Kind: api.SetUniforms, First: 61, Values: []int{5, 6}})
	want.Uniforms[61], want.Uniforms[62], want.Uniforms[63] = 5, 6, 8
	check(t, s, 3, 1, want)
	s.Bind(api.Command{Kind: api.BindIndex, ID: 3, Index: api.Index8})
	check(t, s, 3, 0, want)
	s.Bind(api.Command{Kind: api.BindIndex, ID: 3, Index: api.NoIndex})
	check(t, s, 3, 1, want)
	// The other slots, commands that bind nothing, and those that are not valid, change nothing.
	for _, c := range []api.Command{{Kind: api.BindVertex, Slot: 1, ID: 3}, {Kind: api.EndPass}, {Kind: api.Draw, Count: 3}, {Kind: api.BeginPass, ID: 3}, {}, {Kind: 99}, {Kind: api.BindVertex, Slot: 4}, {Kind: api.BindTexture, Slot: math.MaxInt, Sampler: point}, {Kind: api.BindBuffer, Slot: -1}, {Kind: api.SetUniforms, First: 63, Values: []int{1, 2}}, {Kind: api.SetUniforms, First: -1, Values: []int{1}}, {Kind: api.BindPipeline, ID: 8}, {Kind: api.BindIndex, ID: 2}} {
		s.Bind(c)
		check(t, s, 3, 1, want)
	}
}

// TestP50_3Independent changes the results of a draw, and the values of a command behind it.
func TestP50_3Independent(t *testing.T) {
	s, want := binding.New(), nothing()
	values := []int{3}
	s.Bind(api.Command{Kind: api.BindPipeline})
	s.Bind(api.Command{Kind: api.SetUniforms, Values: values})
	values[0] = 9
	want.Uniforms[0] = 3
	d := check(t, s, 1, 0, want)
	d.Bindings.Uniforms[0], d.Bindings.Samplers[0] = 7, point
	check(t, s, 1, 0, want)
	first, second := binding.New(), binding.New()
	first.Bind(api.Command{Kind: api.BindPipeline})
	if _, code := second.Draw(store{}, 0, 3); code != api.ErrPipeline || slices.Equal(d.Bindings.Uniforms, want.Uniforms) {
		t.Errorf("a state is bound by another one: error %d", code)
	}
}
