package lower

import (
	"slices"

	"frustum/api"
	"frustum/fixed"
	"frustum/interpreter"
	"frustum/isa"
)

// texelComponents is the number of components of a texel.
const texelComponents = 4

// lane is the state of a program in one lane.
type lane struct {
	p         api.Program
	b         api.Bindings
	inputs    []int
	registers []int
	outputs   []int
	// partners are, for each instruction of a construct, the index of another one: see partnersOf.
	partners []int
	// rounds are, for each Loop, the numbers of iterations that are complete.
	rounds    []int
	discarded bool
	emitted   [][]int
	cuts      []int
}

// LaneOf returns the result of a program that is executed for a single lane.
func LaneOf(p api.Program, b api.Bindings, inputs []int) (api.LaneResult, api.Errno) {
	if isa.Validate(p) != api.OK {
		return api.LaneResult{}, api.ErrShader
	}
	l := lane{p: p, b: b, inputs: inputs, partners: partnersOf(p)}
	l.registers = make([]int, p.Registers)
	l.outputs = make([]int, p.Outputs)
	l.rounds = make([]int, len(p.Code))
	for at := 0; at < len(p.Code); {
		at = l.step(at)
	}
	return api.LaneResult{Outputs: l.outputs, Discarded: l.discarded, Emitted: l.emitted, Cuts: l.cuts}, api.OK
}

// partnersOf returns for each If the index of its Else or EndIf, for each Else that of its EndIf, for each Loop that of its EndLoop, and for each EndLoop, Break and Continue that of its Loop.
func partnersOf(p api.Program) []int {
	partners := make([]int, len(p.Code))
	var open, loops []int
	for at, in := range p.Code {
		switch in.Op {
		case api.If:
			open = append(open, at)
		case api.Loop:
			open, loops = append(open, at), append(loops, at)
		case api.Else:
			partners[open[len(open)-1]] = at
			open[len(open)-1] = at
		case api.EndIf:
			partners[open[len(open)-1]] = at
			open = open[:len(open)-1]
		case api.EndLoop:
			begin := loops[len(loops)-1]
			partners[begin], partners[at] = at, begin
			open, loops = open[:len(open)-1], loops[:len(loops)-1]
		case api.Break, api.Continue:
			partners[at] = loops[len(loops)-1]
		}
	}
	return partners
}

// step executes an instruction, and returns the index of the next one.
func (l *lane) step(at int) int {
	in, partner := l.p.Code[at], l.partners[at]
	switch in.Op {
	case api.If:
		if l.registers[in.A] == 0 {
			return partner + 1
		}
	case api.Else:
		// This is the end of the instructions that If has selected.
		return partner + 1
	case api.Loop:
		l.rounds[at] = 0
	case api.EndLoop:
		l.rounds[partner]++
		if l.rounds[partner] < l.p.Code[partner].Imm {
			return partner + 1
		}
	case api.Break:
		return l.partners[partner] + 1
	case api.Continue:
		return l.partners[partner]
	case api.Discard:
		l.discarded = true
		return len(l.p.Code)
	case api.Emit:
		l.emit()
	case api.Cut:
		l.cut()
	case api.Output:
		l.outputs[in.Imm] = l.registers[in.A]
	case api.EndIf:
	default:
		l.registers[in.Dst] = l.result(in)
	}
	return at + 1
}

// result returns what an instruction sets its Dst to.
func (l *lane) result(in api.Instr) int {
	a, b, c := l.registers[in.A], l.registers[in.B], l.registers[in.C]
	switch in.Op {
	case api.Input:
		return wordOf(l.inputs, in.Imm)
	case api.Uniform:
		return wordOf(l.b.Uniforms, in.Imm)
	case api.Sample:
		return componentOf(interpreter.Texel(l.b, in.Imm/texelComponents, a, b, c), in.Imm%texelComponents)
	case api.Fetch:
		return componentOf(interpreter.FetchTexel(l.b, in.Imm/texelComponents, a, b, c), in.Imm%texelComponents)
	case api.Load:
		return interpreter.LoadWord(l.b, in.Imm, a)
	}
	return isa.Compute(in.Op, a, b, c, in.Imm)
}

// wordOf returns an element of a list, wrapped, or 0 if it does not exist.
func wordOf(list []int, i int) int {
	if i >= len(list) {
		return 0
	}
	return fixed.Wrap(list[i])
}

// componentOf returns a component of a vector, counted from 0.
func componentOf(v api.Vec4, i int) int {
	switch i {
	case 0:
		return v.X
	case 1:
		return v.Y
	case 2:
		return v.Z
	}
	return v.W
}

// emit appends the outputs to the vertices, if there may be more of these.
func (l *lane) emit() {
	if len(l.emitted) < api.MaxEmit {
		l.emitted = append(l.emitted, slices.Clone(l.outputs))
	}
}

// cut appends the number of vertices to the cuts, if there are any behind the last cut.
func (l *lane) cut() {
	last := 0
	if len(l.cuts) > 0 {
		last = l.cuts[len(l.cuts)-1]
	}
	if len(l.emitted) > last {
		l.cuts = append(l.cuts, len(l.emitted))
	}
}
