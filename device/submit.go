package device

import (
	"frustum/api"
	"frustum/binding"
	"frustum/binning"
	"frustum/mipmap"
	"frustum/permute"
	"frustum/resolve"
	"frustum/target"
	"frustum/tiles"
)

// drawFunc returns a target after triangles have been drawn, and the number of samples written.
type drawFunc func(p api.Pipeline, b api.Bindings, t api.Target, triangles []api.Triangle) (api.Target, int, api.Errno)

// execution is a place in a list of commands that is executed by a device.
type execution struct {
	*Device
	bound *binding.State
	// draw is how triangles are drawn.
	draw drawFunc
	// pass is the ID of the target of the pass, and written the result of the active query so far.
	pass, written int
}

// Submit executes commands, and returns their number and OK, or the index of the first command with an error and the error.
func (d *Device) Submit(commands []api.Command) (int, api.Errno) {
	return d.execute(commands, func(p api.Pipeline, b api.Bindings, t api.Target, triangles []api.Triangle) (api.Target, int, api.Errno) {
		return tiles.Draw(p, b, t, triangles, nil)
	})
}

// SubmitShuffled executes commands like Submit, with tiles that are rendered by workers in an order that a state determines.
func (d *Device) SubmitShuffled(commands []api.Command, state uint64, workers int) (int, api.Errno) {
	switch {
	case !d.isReady():
		return 0, api.ErrNil
	case workers < 1 || workers > api.MaxWorkers:
		return 0, api.ErrArgument
	}
	return d.execute(commands, func(p api.Pipeline, b api.Bindings, t api.Target, triangles []api.Triangle) (api.Target, int, api.Errno) {
		tasks := tiles.Assign(binning.Tiles(t.Width, t.Height), workers, state)
		_, state = permute.Next(state)
		return tiles.Run(p, b, t, triangles, tasks)
	})
}

// execute executes commands without errors.
func (d *Device) execute(commands []api.Command, draw drawFunc) (int, api.Errno) {
	at, code := d.Check(commands)
	if code != api.OK {
		return at, code
	}
	e := execution{Device: d, bound: binding.New(), draw: draw}
	for _, c := range commands {
		e.next(c)
	}
	return at, api.OK
}

// next executes a command.
func (e *execution) next(c api.Command) {
	e.bound.Bind(c)
	switch c.Kind {
	case api.BeginPass:
		e.pass = c.ID
		if !c.LoadContents {
			e.targets[c.ID].object = target.Clear(e.targets[c.ID].object, c.Clear, c.ClearDepth, c.ClearStencil)
		}
	case api.Draw:
		e.render(c)
	case api.BeginQuery:
		e.written = 0
	case api.EndQuery:
		e.queries[c.ID].set(e.written)
	case api.Barrier:
		e.states[c.ID] = c.To
	case api.CopyToImage:
		e.copyToImage(c)
	case api.Resolve:
		m, _ := resolve.Images(e.targets[c.ID].object.Color)
		e.replace(c.Slot, m)
	}
}

// render executes a draw.
func (e *execution) render(c api.Command) {
	d, code := e.bound.Draw(e.Device, c.First, c.Count)
	if code != api.OK {
		return
	}
	// The pipeline matches the target, so that there is no error.
	t, written, _ := e.draw(d.Pipeline, d.Bindings, e.targets[e.pass].object, d.Triangles)
	e.targets[e.pass].object = t
	e.written += written
}

// copyToImage replaces the texels of a texture by the bytes of a buffer.
func (e *execution) copyToImage(c api.Command) {
	m := e.level0(c.ID)
	m.Data = e.buffers[c.Slot][:len(m.Data)]
	e.replace(c.ID, m)
}

// replace replaces a texture by the levels of an image.
func (e *execution) replace(id int, m api.Image) {
	// The image is valid, so that there is no error.
	e.textures[id].object, _ = mipmap.Chain(m)
}
