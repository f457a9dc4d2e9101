package device

import (
	"frustum/api"
	"frustum/barrier"
	"frustum/pipeline"
)

// check is a place in a list of commands that is examined.
type check struct {
	*resources
	// pipeline is the ID of the bound pipeline, and target that of the target of the pass.
	pipeline, target int
}

// Check returns the number of commands and OK, or the index of the first command with an error and the error.
func (d *Device) Check(commands []api.Command) (int, api.Errno) {
	if !d.isReady() {
		return 0, api.ErrNil
	}
	if _, at, code := barrier.Check(commands, d.states); code != api.OK {
		return at, code
	}
	k := check{resources: d.resources}
	for i, c := range commands {
		if code := k.next(c); code != api.OK {
			return i, code
		}
	}
	return len(commands), api.OK
}

// next returns the first error of the next command, and goes behind it.
func (k *check) next(c api.Command) api.Errno {
	if !k.hasNamed(c) {
		return api.ErrNotFound
	}
	switch c.Kind {
	case api.BindPipeline:
		k.pipeline = c.ID
	case api.BeginPass:
		k.target = c.ID
	case api.Draw:
		if !pipeline.Matches(k.pipelines[k.pipeline].object, k.targets[k.target].object) {
			return api.ErrTarget
		}
	case api.Resolve:
		if !k.canResolve(c) {
			return api.ErrFormat
		}
	case api.CopyToImage:
		if len(k.buffers[c.Slot]) < len(k.level0(c.ID).Data) {
			return api.ErrSize
		}
	}
	return api.OK
}

// hasNamed reports whether the pipeline, the texture and the target that a command names exist.
func (r *resources) hasNamed(c api.Command) bool {
	switch c.Kind {
	case api.BindPipeline:
		return r.pipelines[c.ID].exists
	case api.BindTexture, api.Barrier, api.CopyToImage:
		return r.textures[c.ID].exists
	case api.BeginPass:
		return r.targets[c.ID].exists
	case api.Resolve:
		return r.targets[c.ID].exists && r.textures[c.Slot].exists
	}
	return true
}

// canResolve reports whether the texture of a command has the format and the size of its target.
func (r *resources) canResolve(c api.Command) bool {
	m, t := r.level0(c.Slot), r.targets[c.ID].object
	return m.Format == t.Color[0].Format && m.Width == t.Width && m.Height == t.Height
}

// level0 returns the largest image of a texture that exists.
func (r *resources) level0(id int) api.Image {
	return r.textures[id].object.Levels[0]
}
