package optimize

import (
	"frustum/api"
	"frustum/isa"
)

// copies tells which registers are copies of others.
type copies struct {
	// origins are the registers from which others were copied.
	origins map[int]origin
	// writes are the numbers of times that registers were written.
	writes map[int]int
}

// origin is a register from which another one was copied when it had been written this number of times.
type origin struct {
	register, writes int
}

// Propagate returns a program in which instructions read the registers of which others are copies.
func Propagate(p api.Program) api.Program {
	c := copies{origins: map[int]origin{}, writes: map[int]int{}}
	return rewritten(p, c.propagate)
}

// propagate returns what replaces the next instruction.
func (c copies) propagate(in api.Instr) api.Instr {
	dst, readsA, readsB, readsC, _ := isa.Operands(in.Op)
	if readsA {
		in.A = c.originOf(in.A)
	}
	if readsB {
		in.B = c.originOf(in.B)
	}
	if readsC {
		in.C = c.originOf(in.C)
	}
	if dst {
		delete(c.origins, in.Dst)
		// From now on, registers that are copies of the old value are none of this register.
		c.writes[in.Dst]++
	}
	switch {
	case in.Op == api.Move && in.A != in.Dst:
		c.origins[in.Dst] = origin{in.A, c.writes[in.A]}
	case isa.IsControl(in.Op):
		// What follows can also be reached from elsewhere.
		clear(c.origins)
	}
	return in
}

// originOf returns the register of which a register is a copy, or the register itself.
func (c copies) originOf(register int) int {
	from, found := c.origins[register]
	if found && from.writes == c.writes[from.register] {
		return from.register
	}
	return register
}
