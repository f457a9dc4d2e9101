package isa

import (
	"math"

	"frustum/api"
)

// texelComponents is the number of components of a texel.
const texelComponents = 4

// validator is a place in the instructions of a program.
type validator struct {
	p api.Program
	// open are the blocks around the place, each as the opcode that begins it: If, Else or Loop.
	open []api.Opcode
	// loops is the number of loops among them.
	loops int
}

// Validate returns the first error of a program, or OK.
func Validate(p api.Program) api.Errno {
	switch {
	case p.Stage < api.VertexStage || p.Stage > api.FragmentStage:
		return api.ErrKind
	case !hasValidCounts(p):
		return api.ErrRange
	case len(p.Code) > api.MaxInstructions:
		return api.ErrTooLong
	}
	v := validator{p: p}
	for _, in := range p.Code {
		if code := v.instruction(in); code != api.OK {
			return code
		}
	}
	if len(v.open) > 0 {
		return api.ErrState
	}
	return api.OK
}

// hasValidCounts reports whether the numbers of registers and of values are within their limits.
func hasValidCounts(p api.Program) bool {
	return isWithin(p.Registers, 0, api.MaxRegisters) && isWithin(p.Inputs, 0, api.MaxComponents) && isWithin(p.Outputs, 0, api.MaxComponents) &&
		isWithin(p.Uniforms, 0, api.MaxUniforms) && isWithin(p.Textures, 0, api.MaxTextures) && isWithin(p.Buffers, 0, api.MaxBuffers)
}

// isWithin reports whether a number is in the range from low to high.
func isWithin(n, low, high int) bool {
	return low <= n && n <= high
}

// instruction returns the first error of the next instruction.
func (v *validator) instruction(in api.Instr) api.Errno {
	switch {
	case !Valid(in.Op):
		return api.ErrKind
	case !hasOnlyOperands(in):
		return api.ErrArgument
	case !v.hasRegisters(in) || !v.isImmediate(in.Op, in.Imm):
		return api.ErrRange
	case !v.isPlaced(in.Op):
		return api.ErrState
	}
	v.follow(in.Op)
	return api.OK
}

// hasOnlyOperands reports whether the fields that an opcode does not use are 0.
func hasOnlyOperands(in api.Instr) bool {
	dst, a, b, c, imm := Operands(in.Op)
	return (dst || in.Dst == 0) && (a || in.A == 0) && (b || in.B == 0) && (c || in.C == 0) && (imm || in.Imm == 0)
}

// hasRegisters reports whether the registers that an instruction uses exist.
func (v *validator) hasRegisters(in api.Instr) bool {
	dst, a, b, c, _ := Operands(in.Op)
	last := v.p.Registers - 1
	return (!dst || isWithin(in.Dst, 0, last)) && (!a || isWithin(in.A, 0, last)) && (!b || isWithin(in.B, 0, last)) && (!c || isWithin(in.C, 0, last))
}

// isImmediate reports whether an opcode can have a number as its Imm.
func (v *validator) isImmediate(op api.Opcode, imm int) bool {
	switch op {
	case api.Const:
		return isWithin(imm, math.MinInt32, math.MaxInt32)
	case api.Input:
		return isWithin(imm, 0, v.inputs()-1)
	case api.Uniform:
		return isWithin(imm, 0, v.p.Uniforms-1)
	case api.Output:
		return isWithin(imm, 0, v.p.Outputs-1)
	case api.Sample, api.Fetch:
		return isWithin(imm, 0, texelComponents*v.p.Textures-1)
	case api.Load:
		return isWithin(imm, 0, v.p.Buffers-1)
	case api.Loop:
		return isWithin(imm, 1, api.MaxLoop)
	}
	return true
}

// inputs returns the number of inputs, with the derivatives in both directions in a fragment program.
func (v *validator) inputs() int {
	if v.p.Stage == api.FragmentStage {
		return 3 * v.p.Inputs
	}
	return v.p.Inputs
}

// isPlaced reports whether an opcode can be at this place.
func (v *validator) isPlaced(op api.Opcode) bool {
	switch op {
	case api.Else:
		return v.innermost() == api.If
	case api.EndIf:
		return v.innermost() == api.If || v.innermost() == api.Else
	case api.EndLoop:
		return v.innermost() == api.Loop
	case api.Break, api.Continue:
		return v.loops > 0
	case api.Loop:
		return v.loops < api.MaxLoopDepth
	case api.Discard:
		return v.p.Stage == api.FragmentStage
	case api.Emit, api.Cut:
		return v.p.Stage == api.GeometryStage
	}
	return true
}

// innermost returns the opcode that began the innermost block, or 0 outside of all constructs.
func (v *validator) innermost() api.Opcode {
	if len(v.open) == 0 {
		return 0
	}
	return v.open[len(v.open)-1]
}

// follow goes behind an opcode that can be at this place.
func (v *validator) follow(op api.Opcode) {
	switch op {
	case api.If:
		v.open = append(v.open, op)
	case api.Else:
		v.open[len(v.open)-1] = op
	case api.Loop:
		v.open = append(v.open, op)
		v.loops++
	case api.EndIf:
		v.open = v.open[:len(v.open)-1]
	case api.EndLoop:
		v.open = v.open[:len(v.open)-1]
		v.loops--
	}
}
