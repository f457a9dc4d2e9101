package machine

import (
	"slices"

	"frustum/api"
	"frustum/fixed"
	"frustum/interpreter"
	"frustum/isa"
	"frustum/mask"
)

// texelComponents is the number of components of a texel.
const texelComponents = 4

// execute does what an instruction does in each of its lanes.
func (m *machine) execute(issue api.Issue) {
	in := m.p.Code[issue.PC]
	if isa.IsPure(in.Op) {
		m.compute(in, issue.Mask)
		return
	}
	for _, lane := range mask.Lanes(issue.Mask) {
		m.step(in, lane)
	}
}

// compute executes a pure instruction in the lanes of a mask.
func (m *machine) compute(in api.Instr, active uint16) {
	dst, a, b, c := &m.registers[in.Dst], &m.registers[in.A], &m.registers[in.B], &m.registers[in.C]
	for lane := range dst {
		if mask.Has(active, lane) {
			dst[lane] = isa.Compute(in.Op, a[lane], b[lane], c[lane], in.Imm)
		}
	}
}

// step executes any other instruction in a lane. Those that only change the mask do nothing there.
func (m *machine) step(in api.Instr, lane int) {
	result := &m.results[lane]
	switch in.Op {
	case api.Input:
		m.registers[in.Dst][lane] = m.input(lane, in.Imm)
	case api.Uniform:
		m.registers[in.Dst][lane] = wordOf(m.b.Uniforms, in.Imm)
	case api.Sample, api.Fetch, api.Load:
		m.registers[in.Dst][lane] = m.read(in, lane)
	case api.Output:
		result.Outputs[in.Imm] = m.registers[in.A][lane]
	case api.Emit:
		emit(result)
	case api.Cut:
		cut(result)
	}
}

// read returns what an instruction reads from a texture or a buffer in a lane.
func (m *machine) read(in api.Instr, lane int) int {
	a, b, c := m.registers[in.A][lane], m.registers[in.B][lane], m.registers[in.C][lane]
	switch in.Op {
	case api.Sample:
		return componentOf(interpreter.Texel(m.b, in.Imm/texelComponents, a, b, c), in.Imm%texelComponents)
	case api.Fetch:
		return componentOf(interpreter.FetchTexel(m.b, in.Imm/texelComponents, a, b, c), in.Imm%texelComponents)
	}
	return interpreter.LoadWord(m.b, in.Imm, a)
}

// input returns an input of a lane.
func (m *machine) input(lane, i int) int {
	if lane >= len(m.inputs) {
		return 0
	}
	return wordOf(m.inputs[lane], i)
}

// wordOf returns an element of a list, wrapped, or 0 if it does not exist.
func wordOf(list []int, i int) int {
	if i >= len(list) {
		return 0
	}
	return fixed.Wrap(list[i])
}

// componentOf returns a component of a vector, counted from 0.
func componentOf(v api.Vec4, i int) int {
	return [...]int{v.X, v.Y, v.Z, v.W}[i]
}

// emit appends the outputs to the vertices of a lane, if there may be more of these.
func emit(result *api.LaneResult) {
	if len(result.Emitted) < api.MaxEmit {
		result.Emitted = append(result.Emitted, slices.Clone(result.Outputs))
	}
}

// cut appends the number of vertices to the cuts of a lane, if there are any behind the last cut.
func cut(result *api.LaneResult) {
	last := 0
	if len(result.Cuts) > 0 {
		last = result.Cuts[len(result.Cuts)-1]
	}
	if len(result.Emitted) > last {
		result.Cuts = append(result.Cuts, len(result.Emitted))
	}
}
