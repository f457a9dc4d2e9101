package history

import (
	"slices"

	"frustum/api"
	"frustum/binding"
	"frustum/command"
	"frustum/device"
	"frustum/fragments"
	"frustum/output"
	"frustum/target"
)

// noDraw is the number of the draw, and of the primitive, of an event that belongs to none.
const noDraw = -1

// replay executes commands again, and records the events of a pixel of a target.
type replay struct {
	// device is a copy that has executed the commands before done.
	device   *device.Device
	commands []api.Command
	done     int
	// id is that of the target.
	id, x, y int
	events   []api.Event
}

// execute executes the commands up to an index outside of all passes.
func (r *replay) execute(end int) {
	// What is bound is forgotten behind each list, so that it has to be bound again. The list is valid like all of the commands.
	list := slices.DeleteFunc(slices.Clone(r.commands[:r.done]), func(c api.Command) bool { return !binds(c.Kind) })
	r.device.Submit(append(list, r.commands[r.done:end]...))
	r.done = end
}

// record records the events of a pass of the target, without executing it.
func (r *replay) record(begin, end int) {
	t, _ := r.device.Target(r.id)
	pixel := pixelOf(t, r.x, r.y)
	if c := r.commands[begin]; !c.LoadContents {
		pixel = r.clear(pixel, c)
	}
	bound := binding.New()
	for i, c := range r.commands[:end] {
		bound.Bind(c)
		if i < begin || c.Kind != api.Draw {
			continue
		}
		// The pipeline is valid, so that there is no error.
		d, _ := bound.Draw(r.device, c.First, c.Count)
		pixel = r.draw(pixel, d, command.Draws(r.commands[:i]))
	}
}

// clear records that the samples of a pixel are cleared, and returns the pixel after that.
func (r *replay) clear(pixel api.Target, c api.Command) api.Target {
	cleared := target.Clear(pixel, c.Clear, c.ClearDepth, c.ClearStencil)
	for sample := range pixel.Samples {
		r.events = append(r.events, api.Event{
			Draw:      noDraw,
			Primitive: noDraw,
			Sample:    sample,
			Outcome:   api.Cleared,
			Color:     c.Clear,
			Before:    target.Color(pixel, 0, 0, sample),
			After:     target.Color(cleared, 0, 0, sample),
		})
	}
	return cleared
}

// draw records what happens to the samples of a pixel in the draw with this number, and returns the pixel after that.
func (r *replay) draw(pixel api.Target, d binding.Draw, number int) api.Target {
	var list []api.Fragment
	for _, t := range d.Triangles {
		list = append(list, fragments.Generate(t, r.x, r.y, 1, 1, pixel.Samples)...)
	}
	colors, discarded, _ := fragments.Shade(d.Pipeline.Fragment, d.Bindings, list)
	for i, f := range list {
		// The only pixel of the target has other coordinates.
		f.X, f.Y = 0, 0
		for sample := range pixel.Samples {
			after, outcome := output.Sample(d.Pipeline, pixel, f, sample, colors[i], discarded[i])
			if outcome == 0 {
				// The fragment does not cover the sample.
				continue
			}
			r.events = append(r.events, api.Event{
				Draw:      number,
				Primitive: f.Primitive,
				Sample:    sample,
				Outcome:   outcome,
				Color:     colors[i],
				Before:    target.Color(pixel, 0, 0, sample),
				After:     target.Color(after, 0, 0, sample),
				Depth:     f.Depths[sample],
			})
			pixel = after
		}
	}
	return pixel
}

// pixelOf returns a target with a single pixel, which has the samples of a pixel of another one. All that happens to it copies the whole target, so that a small one is faster.
func pixelOf(t api.Target, x, y int) api.Target {
	pixel, _ := target.New(1, 1, t.Samples, t.Color[0].Format, t.Depth)
	for sample := range t.Samples {
		pixel = target.Store(pixel, 0, 0, sample, target.Color(t, x, y, sample), target.Depth(t, x, y, sample), target.Stencil(t, x, y, sample))
	}
	return pixel
}

// binds reports whether commands of a kind bind something.
func binds(k api.CommandKind) bool {
	switch k {
	case api.BindPipeline, api.BindVertex, api.BindIndex, api.BindTexture, api.BindBuffer, api.SetUniforms:
		return true
	}
	return false
}
