package optimize

import (
	"slices"

	"frustum/api"
	"frustum/isa"
)

// Used reports for each register of a valid program whether an instruction reads it.
func Used(p api.Program) []bool {
	if isa.Validate(p) != api.OK {
		return nil
	}
	used := make([]bool, p.Registers)
	for register, count := range readers(p) {
		used[register] = count > 0
	}
	return used
}

// readers returns for each register the number of operands that are this register.
func readers(p api.Program) []int {
	counts := make([]int, p.Registers)
	for _, in := range p.Code {
		for _, register := range isa.Uses(in) {
			counts[register]++
		}
	}
	return counts
}

// writers returns for each register the indices of the instructions that write it.
func writers(p api.Program) [][]int {
	lists := make([][]int, p.Registers)
	for i, in := range p.Code {
		if hasDst(in) {
			lists[in.Dst] = append(lists[in.Dst], i)
		}
	}
	return lists
}

// RemoveDead returns a program without the instructions that have no effect.
func RemoveDead(p api.Program) api.Program {
	if isa.Validate(p) != api.OK {
		p.Code = slices.Clone(p.Code)
		return p
	}
	dead := deadInstructions(p)
	var code []api.Instr
	for i, in := range p.Code {
		if !dead[i] {
			code = append(code, in)
		}
	}
	p.Code = code
	return p
}

// deadInstructions reports for each instruction whether it has no effect, also because what reads its result has none.
func deadInstructions(p api.Program) []bool {
	counts, lists := readers(p), writers(p)
	dead := make([]bool, len(p.Code))
	// Instructions are examined again when the last one that reads their results turns out to be dead.
	var open []int
	for i := range p.Code {
		open = append(open, i)
	}
	for len(open) > 0 {
		i := open[len(open)-1]
		open = open[:len(open)-1]
		in := p.Code[i]
		if dead[i] || !isDead(in, counts) {
			continue
		}
		dead[i] = true
		for _, register := range isa.Uses(in) {
			counts[register]--
			if counts[register] == 0 {
				open = append(open, lists[register]...)
			}
		}
	}
	return dead
}

// isDead reports whether an instruction has no effect, if registers have these numbers of readers.
func isDead(in api.Instr, readers []int) bool {
	return in.Op == api.Move && in.Dst == in.A || hasDst(in) && readers[in.Dst] == 0
}
