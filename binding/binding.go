// Package binding keeps what the commands of a list have bound, as P50.3 says. Devices and histories of pixels draw with it in the same way.
package binding

import (
	"slices"

	"frustum/api"
	"frustum/command"
	"frustum/frontend"
)

// nothing is the ID of what is not bound.
const nothing = -1

// Resources are the objects that commands name by their IDs. What does not exist is nil or the zero value.
type Resources interface {
	Buffer(id int) []byte
	Texture(id int) (api.Texture, bool)
	Pipeline(id int) (api.Pipeline, bool)
}

// State is what is bound at a place in a list of commands. It begins as the result of New.
type State struct {
	pipeline, index int
	indexType       api.IndexType
	vertex, buffers [api.MaxBuffers]int
	textures        [api.MaxTextures]int
	samplers        [api.MaxTextures]api.Sampler
	uniforms        [api.MaxUniforms]int
}

// Draw is what a draw renders.
type Draw struct {
	Pipeline  api.Pipeline
	Bindings  api.Bindings
	Triangles []api.Triangle
}

// New returns the state at the beginning of a list.
func New() *State {
	s := State{pipeline: nothing, index: nothing, indexType: api.NoIndex}
	for _, ids := range [][]int{s.vertex[:], s.buffers[:], s.textures[:]} {
		for slot := range ids {
			ids[slot] = nothing
		}
	}
	return &s
}

// Bind goes behind a command. Those that bind nothing, and those that are not valid, change nothing.
func (s *State) Bind(c api.Command) {
	if command.Check(c) != api.OK {
		return
	}
	switch c.Kind {
	case api.BindPipeline:
		s.pipeline = c.ID
	case api.BindVertex:
		s.vertex[c.Slot] = c.ID
	case api.BindIndex:
		s.index, s.indexType = c.ID, c.Index
	case api.BindTexture:
		s.textures[c.Slot], s.samplers[c.Slot] = c.ID, c.Sampler
	case api.BindBuffer:
		s.buffers[c.Slot] = c.ID
	case api.SetUniforms:
		copy(s.uniforms[c.First:], c.Values)
	}
}

// Draw returns what a draw of some indices renders, or the error of the front end.
func (s *State) Draw(r Resources, first, count int) (Draw, api.Errno) {
	// Without a pipeline, the zero one is rejected.
	p, _ := r.Pipeline(s.pipeline)
	b := s.bindings(r)
	indices := frontend.Indices(r.Buffer(s.index), s.indexType, first, count)
	triangles, code := frontend.Triangles(p, b, buffersOf(r, s.vertex), indices)
	if code != api.OK {
		return Draw{}, code
	}
	return Draw{Pipeline: p, Bindings: b, Triangles: triangles}, api.OK
}

// bindings returns what the shaders of a draw use.
func (s *State) bindings(r Resources) api.Bindings {
	b := api.Bindings{
		Uniforms: slices.Clone(s.uniforms[:]),
		Samplers: slices.Clone(s.samplers[:]),
		Buffers:  buffersOf(r, s.buffers),
	}
	for _, id := range s.textures {
		texture, _ := r.Texture(id)
		b.Textures = append(b.Textures, texture)
	}
	return b
}

// buffersOf returns the buffers of all slots.
func buffersOf(r Resources, ids [api.MaxBuffers]int) [][]byte {
	var buffers [][]byte
	for _, id := range ids {
		buffers = append(buffers, r.Buffer(id))
	}
	return buffers
}
