package optimize

import (
	"math"

	"frustum/api"
	"frustum/isa"
)

// constants are the registers whose values are known, with these.
type constants map[int]int

// Fold returns a program in which instructions with known results are replaced by constants.
func Fold(p api.Program) api.Program {
	return rewritten(p, constants{}.fold)
}

// fold returns what replaces the next instruction.
func (known constants) fold(in api.Instr) api.Instr {
	in = known.simplified(in)
	switch {
	case isa.IsControl(in.Op):
		// What follows can also be reached from elsewhere.
		clear(known)
	case in.Op == api.Const:
		known[in.Dst] = in.Imm
	case hasDst(in):
		delete(known, in.Dst)
	}
	return in
}

// simplified returns a constant instead of an instruction with a known result, and a Move instead of a Select with a known choice.
func (known constants) simplified(in api.Instr) api.Instr {
	if !isa.IsPure(in.Op) {
		return in
	}
	if known.areAll(isa.Uses(in)) {
		result := isa.Compute(in.Op, known[in.A], known[in.B], known[in.C], in.Imm)
		if math.MinInt32 <= result && result <= math.MaxInt32 {
			return api.Instr{Op: api.Const, Dst: in.Dst, Imm: result}
		}
	}
	choice, found := known[in.A]
	switch {
	case in.Op != api.Select || !found:
		return in
	case choice != 0:
		return api.Instr{Op: api.Move, Dst: in.Dst, A: in.B}
	}
	return api.Instr{Op: api.Move, Dst: in.Dst, A: in.C}
}

// areAll reports whether the values of all of the registers are known.
func (known constants) areAll(registers []int) bool {
	for _, register := range registers {
		if _, found := known[register]; !found {
			return false
		}
	}
	return true
}
