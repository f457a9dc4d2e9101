package regalloc

import (
	"slices"

	"frustum/api"
	"frustum/isa"
)

// always is the beginning of an interval in front of the first instruction.
const always = -1

// never is the end of the interval of a register that no instruction mentions.
const never = -2

// Intervals returns for each register of a valid program the first and the last index of the instructions between which its value may be needed.
func Intervals(p api.Program) [][2]int {
	if isa.Validate(p) != api.OK {
		return nil
	}
	intervals := slices.Repeat([][2]int{{always, never}}, p.Registers)
	ends := loopEnds(p)
	depth := 0
	for at, in := range p.Code {
		depth += nesting(in.Op)
		for _, register := range mentioned(in) {
			interval := &intervals[register]
			if !isMentioned(*interval) && depth == 0 && isSet(in, register) {
				interval[0] = at
			}
			// The ends never decrease, so that the last one is the greatest.
			interval[1] = ends[at]
		}
	}
	return intervals
}

// isMentioned reports whether an interval is that of a register that an instruction mentions.
func isMentioned(interval [2]int) bool {
	return interval[1] != never
}

// mentioned returns the registers that an instruction reads or writes.
func mentioned(in api.Instr) []int {
	registers := isa.Uses(in)
	if dst, _, _, _, _ := isa.Operands(in.Op); dst {
		registers = append(registers, in.Dst)
	}
	return registers
}

// isSet reports whether an instruction writes a register that it mentions without reading it.
func isSet(in api.Instr, register int) bool {
	return !slices.Contains(isa.Uses(in), register)
}

// nesting returns how an instruction changes the number of open constructs.
func nesting(op api.Opcode) int {
	switch op {
	case api.If, api.Loop:
		return 1
	case api.EndIf, api.EndLoop:
		return -1
	}
	return 0
}

// loopEnds returns for each instruction the index of the end of its outermost loop, or its own index outside of loops. A value that is needed in a loop may be needed in the next iteration.
func loopEnds(p api.Program) []int {
	ends := make([]int, len(p.Code))
	loops, begin := 0, 0
	for at, in := range p.Code {
		ends[at] = at
		switch in.Op {
		case api.Loop:
			if loops == 0 {
				begin = at
			}
			loops++
		case api.EndLoop:
			loops--
			if loops == 0 {
				for i := begin; i < at; i++ {
					ends[i] = at
				}
			}
		}
	}
	return ends
}
