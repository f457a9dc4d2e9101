package device

import (
	"bytes"
	"slices"

	"frustum/api"
	"frustum/image"
	"frustum/target"
)

// slot holds an object, if there is one.
type slot[T any] struct {
	object T
	exists bool
}

// resources are the objects of a device, by their IDs.
type resources struct {
	buffers   [api.MaxSlots][]byte
	textures  [api.MaxSlots]slot[api.Texture]
	targets   [api.MaxSlots]slot[api.Target]
	pipelines [api.MaxSlots]slot[api.Pipeline]
	queries   [api.MaxSlots]slot[int]
	// states are those of the textures.
	states []api.ResourceState
}

// set stores an object.
func (s *slot[T]) set(object T) {
	s.object, s.exists = object, true
}

// clone returns a copy of resources in new memory.
func (r *resources) clone() *resources {
	result := *r
	for id := range api.MaxSlots {
		result.buffers[id] = bytes.Clone(r.buffers[id])
		result.textures[id].object = cloneTexture(r.textures[id].object)
		result.targets[id].object = target.Clone(r.targets[id].object)
		result.pipelines[id].object = clonePipeline(r.pipelines[id].object)
	}
	result.states = slices.Clone(r.states)
	return &result
}

// cloneTexture returns a copy of a texture in new memory.
func cloneTexture(t api.Texture) api.Texture {
	t.Levels = slices.Clone(t.Levels)
	for i, m := range t.Levels {
		t.Levels[i] = image.Clone(m)
	}
	return t
}

// clonePipeline returns a copy of a pipeline in new memory.
func clonePipeline(p api.Pipeline) api.Pipeline {
	p.Vertex.Code = slices.Clone(p.Vertex.Code)
	p.Geometry.Code = slices.Clone(p.Geometry.Code)
	p.Fragment.Code = slices.Clone(p.Fragment.Code)
	p.Attributes = slices.Clone(p.Attributes)
	return p
}
