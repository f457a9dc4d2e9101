package console

import (
	"frustum/api"
	"frustum/buffer"
	"frustum/compiler"
	"frustum/format"
	"frustum/image"
	"frustum/mipmap"
	"frustum/pipeline"
	"frustum/target"
	"frustum/trace"
)

const (
	// registers limits the programs that are compiled.
	registers = 256
	// maxState limits the states of shuffle.
	maxState = 1 << 62
	// maxByte is the greatest byte.
	maxByte = 255
)

// compile replaces a program by that of a text, if it has the right stage.
func compile(program *api.Program, stage api.Stage, words []string) (string, api.Errno) {
	p, _, code := compiler.Compile(format.JoinFields(words...), registers)
	switch {
	case code != api.OK:
		return "", code
	case p.Stage != stage:
		return "", api.ErrKind
	}
	*program = p
	return lineOf("program", format.FormatInt(p.Registers), format.FormatInt(len(p.Code))), api.OK
}

// setBuffer sets a buffer of the device.
func (c *Console) setBuffer(id int, numbers []int) (string, api.Errno) {
	data := make([]byte, len(numbers))
	for i, n := range numbers {
		if n < 0 || n > maxByte {
			return "", api.ErrRange
		}
		data[i] = byte(n)
	}
	return okIf(c.device.SetBuffer(id, data))
}

// setTexture sets a texture of the device, which has the same color everywhere: ID, width, height, format and color.
func (c *Console) setTexture(n []int) (string, api.Errno) {
	m, code := image.New(api.TexelFormat(n[3]), n[1], n[2])
	if code != api.OK {
		return "", code
	}
	// The image is valid, so that there is no error.
	t, _ := mipmap.Chain(image.Fill(m, api.Vec4{X: n[4], Y: n[5], Z: n[6], W: n[7]}))
	return okIf(c.device.SetTexture(n[0], t))
}

// setTarget sets a target of the device: ID, width, height, samples and formats.
func (c *Console) setTarget(n []int) (string, api.Errno) {
	t, code := target.New(n[1], n[2], n[3], api.TexelFormat(n[4]), api.DepthFormat(n[5]))
	if code != api.OK {
		return "", code
	}
	return okIf(c.device.SetTarget(n[0], t))
}

// addAttribute adds an attribute: buffer, offset, stride and format.
func (c *Console) addAttribute(n []int) (string, api.Errno) {
	a := api.Attribute{Buffer: n[0], Offset: n[1], Stride: n[2], Format: api.VertexFormat(n[3])}
	switch {
	case len(c.attributes) >= api.MaxAttributes:
		return "", api.ErrFull
	case !buffer.ValidAttribute(a):
		return "", api.ErrArgument
	}
	c.attributes = append(c.attributes, a)
	return okLine, api.OK
}

// setPipeline sets a pipeline of the device: ID, size of the viewport, samples, formats, cull mode and depth comparison.
func (c *Console) setPipeline(n []int) (string, api.Errno) {
	p := pipeline.Default()
	p.Vertex, p.Fragment, p.Attributes = c.vertex, c.fragment, c.attributes
	p.Viewport.Width, p.Viewport.Height, p.Samples = n[1], n[2], n[3]
	p.Format, p.DepthFormat, p.Cull = api.TexelFormat(n[4]), api.DepthFormat(n[5]), api.CullMode(n[6])
	if n[7] != 0 {
		p.Depth = api.DepthState{Test: true, Write: true, Compare: api.CompareFunc(n[7])}
	}
	return okIf(c.device.SetPipeline(n[0], p))
}

// enqueue adds the command of a trace line to the queue.
func (c *Console) enqueue(words []string) (string, api.Errno) {
	x, code := trace.ParseLine(format.JoinFields(words...))
	switch {
	case code != api.OK:
		return "", code
	case len(c.queue) >= api.MaxCommands:
		return "", api.ErrFull
	}
	c.queue = append(c.queue, x)
	return okLine, api.OK
}

// shuffle submits the queue with tiles in an order that a state determines.
func (c *Console) shuffle(state, workers int) (string, api.Errno) {
	if state < 0 || state > maxState {
		return "", api.ErrRange
	}
	return c.done(c.device.SubmitShuffled(c.queue, uint64(state), workers))
}

// done empties the queue if it was submitted without an error.
func (c *Console) done(count int, code api.Errno) (string, api.Errno) {
	if code != api.OK {
		return "", code
	}
	c.queue = nil
	return lineOf("done", format.FormatInt(count)), api.OK
}
