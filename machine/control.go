package machine

import (
	"iter"

	"frustum/api"
	"frustum/mask"
)

// control is the part of the state that determines which instruction is issued next, and for which lanes.
type control struct {
	// active is the execution mask, and discarded are the lanes that have left the program.
	active, discarded uint16

	branches []branch
	loops    []loop
	// loopEnds are the indices of the EndLoop of each Loop, by its index.
	loopEnds []int
}

// branch is an open If.
type branch struct {
	// saved is the mask in front of the If, and taken are the lanes that execute its first part.
	saved, taken uint16
}

// loop is an open Loop.
type loop struct {
	// begin is the index of the Loop, and saved the mask in front of it.
	begin int
	saved uint16
	// rounds is the number of complete iterations.
	rounds int
	// left are the lanes that have left the loop, and skipped those that have left its current iteration.
	left, skipped uint16
}

// loopEndsOf returns the index of the EndLoop of each Loop of a valid program.
func loopEndsOf(p api.Program) []int {
	ends := make([]int, len(p.Code))
	var open []int
	for at, in := range p.Code {
		switch in.Op {
		case api.Loop:
			open = append(open, at)
		case api.EndLoop:
			ends[open[len(open)-1]] = at
			open = open[:len(open)-1]
		}
	}
	return ends
}

// issued returns the instructions that are issued, one after the other. What an instruction does in its lanes is left to the caller, and must be done before the next one.
func (m *machine) issued() iter.Seq[api.Issue] {
	return func(yield func(api.Issue) bool) {
		for at := 0; at < len(m.p.Code); {
			if !yield(api.Issue{PC: at, Mask: m.active}) {
				return
			}
			at = m.follow(at)
		}
	}
}

// follow changes the mask as an instruction requires, and returns the index of the next one.
func (m *machine) follow(at int) int {
	switch in := m.p.Code[at]; in.Op {
	case api.If:
		taken := m.lanesWith(in.A)
		m.branches = append(m.branches, branch{saved: m.active, taken: taken})
		m.active = taken
	case api.Else:
		b := m.branches[len(m.branches)-1]
		m.active = mask.AndNot(b.saved, b.taken)
	case api.EndIf:
		b := m.branches[len(m.branches)-1]
		m.branches = m.branches[:len(m.branches)-1]
		m.active = mask.AndNot(b.saved, m.gone())
	case api.Loop:
		if m.active == 0 {
			return m.loopEnds[at] + 1
		}
		m.loops = append(m.loops, loop{begin: at, saved: m.active})
	case api.EndLoop:
		return m.endLoop(at)
	case api.Break:
		l := &m.loops[len(m.loops)-1]
		l.left = mask.Or(l.left, m.active)
		m.active = 0
	case api.Continue:
		l := &m.loops[len(m.loops)-1]
		l.skipped = mask.Or(l.skipped, m.active)
		m.active = 0
	case api.Discard:
		m.discarded = mask.Or(m.discarded, m.active)
		m.active = 0
	}
	return at + 1
}

// endLoop ends an iteration, and returns the index of the next instruction.
func (m *machine) endLoop(at int) int {
	l := &m.loops[len(m.loops)-1]
	l.rounds++
	remaining := mask.AndNot(l.saved, mask.Or(l.left, m.discarded))
	if remaining != 0 && l.rounds < m.p.Code[l.begin].Imm {
		l.skipped = 0
		m.active = remaining
		return l.begin + 1
	}
	m.active = mask.AndNot(l.saved, m.discarded)
	m.loops = m.loops[:len(m.loops)-1]
	return at + 1
}

// gone returns the lanes that have left the program, the innermost loop, or its current iteration.
func (m *machine) gone() uint16 {
	if len(m.loops) == 0 {
		return m.discarded
	}
	l := m.loops[len(m.loops)-1]
	return mask.Or(m.discarded, mask.Or(l.left, l.skipped))
}

// lanesWith returns the active lanes in which a register is not 0.
func (m *machine) lanesWith(register int) uint16 {
	lanes := m.active
	for lane, x := range m.registers[register] {
		if x == 0 {
			lanes = mask.Without(lanes, lane)
		}
	}
	return lanes
}
