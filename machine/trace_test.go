package machine_test

import (
	"fmt"
	"math"
	"slices"
	"strings"
	"testing"

	"frustum/api"
	"frustum/interpreter"
	"frustum/isa"
	"frustum/machine"
	"frustum/mask"
)

// shown returns issues as a text, each with its index and the first four lanes of its mask.
func shown(issues []api.Issue) string {
	var words []string
	for _, issue := range issues {
		words = append(words, fmt.Sprintf("%d:%s", issue.PC, mask.Text(issue.Mask)[:4]))
	}
	return strings.Join(words, " ")
}

// checkTrace checks the issues of a program behind "input r0 0; input r1 1;", whose values in the first four lanes are the digits of the two texts; lanes beyond the first text are not active.
func checkTrace(t *testing.T, text, first, second, want string) {
	t.Helper()
	p := assemble(t, "input r0 0; input r1 1; "+text)
	var inputs [][]int
	for i := range first {
		inputs = append(inputs, []int{int(first[i] - '0'), int(second[i] - '0')})
	}
	active := uint16(1)<<len(first) - 1
	got, code := machine.Trace(p, api.Bindings{}, inputs, active, math.MaxInt)
	all := mask.Text(active)[:4]
	if want = strings.TrimSpace(fmt.Sprintf("0:%s 1:%s %s", all, all, want)); code != api.OK || shown(got) != want {
		t.Errorf("%s with %s and %s:\nthe issues are %s, error %d,\n           want %s", text, first, second, shown(got), code, want)
	}
	if second := shown(expectedTrace(p, api.Bindings{}, inputs, active)); second != want {
		t.Errorf("%s: the second reading is %s, want %s", text, second, want)
	}
}

func TestP26_2If(t *testing.T) {
	checkTrace(t, "", "10", "00", "")
	checkTrace(t, "if r0; const r2 1; end-if; const r2 1", "10", "00", "2:11.. 3:1... 4:1... 5:11..")
	checkTrace(t, "if r0; const r2 1; end-if; const r2 1", "11", "00", "2:11.. 3:11.. 4:11.. 5:11..")
	checkTrace(t, "if r0; const r2 1; end-if; const r2 1", "00", "00", "2:11.. 3:.... 4:.... 5:11..")
	checkTrace(t, "if r0; end-if", "0101", "0000", "2:1111 3:.1.1")
	checkTrace(t, "if r0; const r2 1; else; const r2 2; end-if; const r3 1", "100", "000", "2:111. 3:1... 4:1... 5:.11. 6:.11. 7:111.")
	checkTrace(t, "if r0; const r2 1; else; const r2 2; end-if; const r3 1", "111", "000", "2:111. 3:111. 4:111. 5:.... 6:.... 7:111.")
	checkTrace(t, "if r0; else; end-if; const r3 1", "0", "0", "2:1... 3:.... 4:1... 5:1...")
	// The register of the If may change in its first part.
	checkTrace(t, "if r0; const r0 0; else; const r0 1; end-if; if r0; end-if", "100", "000", "2:111. 3:1... 4:1... 5:.11. 6:.11. 7:111. 8:.11.")
	// An If in each part of an If.
	checkTrace(t, "if r0; if r1; const r2 1; else; const r2 2; end-if; const r2 1; else; if r1; const r2 3; end-if; const r2 1; end-if; const r2 1", "1100", "1010", "2:1111 3:11.. 4:1... 5:1... 6:.1.. 7:.1.. 8:11.. 9:11.. 10:..11 11:..1. 12:..1. 13:..11 14:..11 15:1111")
	checkTrace(t, "if r0; if r0; if r1; end-if; else; const r2 1; end-if; end-if", "1110", "1010", "2:1111 3:111. 4:111. 5:1.1. 6:111. 7:.... 8:.... 9:111.")
	// Nothing is active.
	checkTrace(t, "if r0; else; end-if; loop 2; const r2 1; end-loop; const r2 1", "", "", "2:.... 3:.... 4:.... 5:.... 8:....")
}

func TestP26_2Loop(t *testing.T) {
	checkTrace(t, "loop 1; end-loop; const r2 1", "00", "00", "2:11.. 3:11.. 4:11..")
	checkTrace(t, "loop 3; const r2 1; end-loop; const r2 1", "00", "00", "2:11.. 3:11.. 4:11.. 3:11.. 4:11.. 3:11.. 4:11.. 5:11..")
	checkTrace(t, "loop 2; loop 2; end-loop; const r2 1; end-loop", "0", "0", "2:1... 3:1... 4:1... 4:1... 5:1... 6:1... 3:1... 4:1... 4:1... 5:1... 6:1...")
	// A loop with an empty mask, in an If, and behind lanes that left.
	checkTrace(t, "if r0; loop 3; const r2 1; loop 2; end-loop; end-loop; const r2 1; end-if; const r2 1", "00", "00", "2:11.. 3:.... 8:.... 9:.... 10:11..")
	checkTrace(t, "loop 2; break; loop 3; const r2 1; end-loop; const r2 1; end-loop; const r2 1", "00", "00", "2:11.. 3:11.. 4:.... 7:.... 8:.... 9:11..")
	checkTrace(t, "loop 2; continue; loop 3; end-loop; end-loop; const r2 1", "00", "00", "2:11.. 3:11.. 4:.... 6:.... 3:11.. 4:.... 6:.... 7:11..")
	// Break in some lanes, and in the others in the next iteration.
	checkTrace(t, "loop 3; if r0; break; end-if; const r2 1; end-loop; const r2 1", "10", "00", "2:11.. 3:11.. 4:1... 5:.... 6:.1.. 7:.1.. 3:.1.. 4:.... 5:.... 6:.1.. 7:.1.. 3:.1.. 4:.... 5:.... 6:.1.. 7:.1.. 8:11..")
	checkTrace(t, "loop 3; if r0; break; end-if; const r0 1; end-loop; const r2 1", "10", "00", "2:11.. 3:11.. 4:1... 5:.... 6:.1.. 7:.1.. 3:.1.. 4:.1.. 5:.... 6:.... 7:.... 8:11..")
	checkTrace(t, "loop 3; if r0; break; else; const r2 1; end-if; end-loop; const r2 1", "10", "00", "2:11.. 3:11.. 4:1... 5:.... 6:.1.. 7:.1.. 8:.1.. 3:.1.. 4:.... 5:.... 6:.1.. 7:.1.. 8:.1.. 3:.1.. 4:.... 5:.... 6:.1.. 7:.1.. 8:.1.. 9:11..")
	checkTrace(t, "loop 16; break; end-loop; const r2 1", "10", "00", "2:11.. 3:11.. 4:.... 5:11..")
	// Continue leaves one iteration only.
	checkTrace(t, "loop 2; if r0; continue; end-if; const r2 1; end-loop; const r2 1", "10", "00", "2:11.. 3:11.. 4:1... 5:.... 6:.1.. 7:.1.. 3:11.. 4:1... 5:.... 6:.1.. 7:.1.. 8:11..")
	checkTrace(t, "loop 2; continue; const r2 1; end-loop; const r2 1", "10", "00", "2:11.. 3:11.. 4:.... 5:.... 3:11.. 4:.... 5:.... 6:11..")
	checkTrace(t, "loop 2; if r0; if r1; continue; else; break; end-if; const r2 1; end-if; const r2 1; end-loop; const r2 1", "1100", "1010", "2:1111 3:1111 4:11.. 5:1... 6:.... 7:.1.. 8:.... 9:.... 10:.... 11:..11 12:..11 3:1.11 4:1... 5:1... 6:.... 7:.... 8:.... 9:.... 10:.... 11:..11 12:..11 13:1111")
	// What leaves an inner loop goes on in the outer one.
	checkTrace(t, "loop 2; loop 2; if r0; break; end-if; const r2 1; end-loop; const r2 1; end-loop", "10", "00", "2:11.. 3:11.. 4:11.. 5:1... 6:.... 7:.1.. 8:.1.. 4:.1.. 5:.... 6:.... 7:.1.. 8:.1.. 9:11.. 10:11.. 3:11.. 4:11.. 5:1... 6:.... 7:.1.. 8:.1.. 4:.1.. 5:.... 6:.... 7:.1.. 8:.1.. 9:11.. 10:11..")
	checkTrace(t, "loop 2; if r0; loop 2; break; end-loop; const r2 1; end-if; const r2 1; end-loop", "10", "00", "2:11.. 3:11.. 4:1... 5:1... 6:.... 7:1... 8:1... 9:11.. 10:11.. 3:11.. 4:1... 5:1... 6:.... 7:1... 8:1... 9:11.. 10:11..")
	checkTrace(t, "loop 2; if r0; continue; end-if; loop 1; if r1; continue; end-if; const r2 1; end-loop; const r2 1; end-loop", "100", "010", "2:111. 3:111. 4:1... 5:.... 6:.11. 7:.11. 8:.1.. 9:.... 10:..1. 11:..1. 12:.11. 13:.11. 3:111. 4:1... 5:.... 6:.11. 7:.11. 8:.1.. 9:.... 10:..1. 11:..1. 12:.11. 13:.11.")
}

func TestP26_2Discard(t *testing.T) {
	checkTrace(t, "discard; const r2 1", "10", "00", "2:11.. 3:....")
	checkTrace(t, "if r0; discard; const r2 1; end-if; const r2 1", "10", "00", "2:11.. 3:1... 4:.... 5:.... 6:.1..")
	checkTrace(t, "if r0; const r2 1; else; discard; end-if; const r2 1; if r0; end-if", "10", "00", "2:11.. 3:1... 4:1... 5:.1.. 6:.... 7:1... 8:1... 9:1...")
	checkTrace(t, "if r0; if r1; discard; end-if; const r2 1; end-if; const r2 1", "1100", "1010", "2:1111 3:11.. 4:1... 5:.... 6:.1.. 7:.1.. 8:.111")
	checkTrace(t, "loop 2; if r0; discard; end-if; const r2 1; end-loop; const r2 1", "10", "00", "2:11.. 3:11.. 4:1... 5:.... 6:.1.. 7:.1.. 3:.1.. 4:.... 5:.... 6:.1.. 7:.1.. 8:.1..")
	checkTrace(t, "loop 2; loop 2; if r0; discard; end-if; break; end-loop; const r2 1; end-loop; const r2 1", "10", "00", "2:11.. 3:11.. 4:11.. 5:1... 6:.... 7:.1.. 8:.... 9:.1.. 10:.1.. 3:.1.. 4:.1.. 5:.... 6:.... 7:.1.. 8:.... 9:.1.. 10:.1.. 11:.1..")
	checkTrace(t, "loop 3; discard; end-loop; const r2 1; loop 2; end-loop; const r2 1; if r0; else; end-if", "10", "00", "2:11.. 3:11.. 4:.... 5:.... 6:.... 8:.... 9:.... 10:.... 11:....")
	checkTrace(t, "loop 3; if r0; break; end-if; discard; end-loop; const r2 1", "10", "00", "2:11.. 3:11.. 4:1... 5:.... 6:.1.. 7:.... 8:1...")
}

// TestP26_2Straight has instructions that do not change the mask.
func TestP26_2Straight(t *testing.T) {
	checkTrace(t, "emit; cut; output r0 0; sample r2 r0 r0 r0 0; fetch r2 r0 r0 r0 0; load r2 r0 0; uniform r2 0; add r2 r2 r2; emit", "10", "00", "2:11.. 3:11.. 4:11.. 5:11.. 6:11.. 7:11.. 8:11.. 9:11.. 10:11..")
}

// TestP26_2Lanes has masks with lanes at both ends, and lanes without inputs.
func TestP26_2Lanes(t *testing.T) {
	p := assemble(t, "input r0 2; if r0; const r1 1; else; const r1 2; end-if")
	inputs := slices.Repeat([][]int{{0, 0, 1}, {1, 1, 0}, {1, 1}}, 7)
	ones := uint16(0b1001001001001001)
	for _, c := range []struct {
		inputs     [][]int
		active, on uint16
	}{
		{inputs, 0xffff, ones}, {inputs, 0x8001, 0x8001}, {inputs, 0x4002, 0}, {inputs, 0x7fff, 0x1249}, {inputs, 0, 0}, {inputs[:16], 0xffff, ones}, {inputs[:15], 0xffff, 0x1249}, {inputs[:1], 0xffff, 1}, {nil, 0xffff, 0}, {[][]int{}, 0x8000, 0}, {make([][]int, 20), 0xffff, 0},
	} {
		want := []api.Issue{{PC: 0, Mask: c.active}, {PC: 1, Mask: c.active}, {PC: 2, Mask: c.on}, {PC: 3, Mask: c.on}, {PC: 4, Mask: c.active &^ c.on}, {PC: 5, Mask: c.active &^ c.on}}
		if got, code := machine.Trace(p, api.Bindings{}, c.inputs, c.active, 99); code != api.OK || !slices.Equal(got, want) {
			t.Errorf("the issues for the mask %04x are %v, error %d, want %v", c.active, got, code, want)
		}
	}
}

func TestP26_2Limit(t *testing.T) {
	// 2 + 16 * (2 + 16 * (2 + 16)) = 4642 instructions are issued.
	long := assemble(t, "const r0 1; loop 16; const r1 1; loop 16; loop 16; end-loop; end-loop; end-loop")
	all := expectedTrace(long, api.Bindings{}, nil, 3)
	if len(all) < 4097 {
		t.Fatalf("the test is wrong: there are %d issues only", len(all))
	}
	for limit, want := range map[int]int{math.MinInt: 0, -1: 0, 0: 0, 1: 1, 2: 2, 17: 17, 4095: 4095, 4096: 4096, 4097: 4096, len(all): 4096, 1 << 32: 4096, math.MaxInt: 4096} {
		got, code := machine.Trace(long, api.Bindings{}, nil, 3, limit)
		if code != api.OK || !slices.Equal(got, all[:want]) {
			t.Errorf("with the limit %d there are %d issues, error %d, want %d", limit, len(got), code, want)
		}
	}
	short := assemble(t, "const r0 1; if r0; end-if")
	for limit, want := range map[int]int{math.MinInt: 0, -1: 0, 0: 0, 1: 1, 2: 2, 3: 3, 4: 3, 4096: 3, 4097: 3, math.MaxInt: 3} {
		if got, code := machine.Trace(short, api.Bindings{}, nil, 3, limit); code != api.OK || len(got) != want {
			t.Errorf("with the limit %d there are %d issues, error %d, want %d", limit, len(got), code, want)
		}
	}
	for _, limit := range []int{math.MinInt, -1, 0, 1, 4096, math.MaxInt} {
		if got, code := machine.Trace(api.Program{Stage: 1}, api.Bindings{}, nil, 3, limit); code != api.OK || len(got) > 0 {
			t.Errorf("an empty program has the issues %v, error %d", got, code)
		}
		for _, p := range wrongPrograms() {
			if got, code := machine.Trace(p, resources(), [][]int{{1}}, 3, limit); code != api.ErrShader || got != nil {
				t.Errorf("a program with an error has the issues %v, error %d", got, code)
			}
		}
	}
}

// lanes is a mask as a set.
type lanes [16]bool

func (l lanes) mask() uint16 {
	m := uint16(0)
	for i, in := range l {
		if in {
			m += 1 << i
		}
	}
	return m
}

// without returns the lanes that are in none of the others.
func (l lanes) without(others ...lanes) lanes {
	for _, other := range others {
		for i := range l {
			l[i] = l[i] && !other[i]
		}
	}
	return l
}

// add adds the lanes of another set.
func (l *lanes) add(other lanes) {
	for i := range l {
		l[i] = l[i] || other[i]
	}
}

// leaving are the lanes that have left a loop, and its current iteration.
type leaving struct{ loop, iteration lanes }

// reading is a second reading of P26.2, which follows the nesting of the constructs.
type reading struct {
	p         api.Program
	b         api.Bindings
	inputs    [][]int
	registers [16]map[int]int
	discarded lanes
	issues    []api.Issue
}

// expectedTrace returns all issues of a valid program.
func expectedTrace(p api.Program, b api.Bindings, inputs [][]int, active uint16) []api.Issue {
	r := reading{p: p, b: b, inputs: inputs}
	var first lanes
	for i := range first {
		first[i] = active>>i%2 == 1
		r.registers[i] = map[int]int{}
	}
	r.block(0, len(p.Code), first, &leaving{})
	return r.issues
}

// parts returns the indices of the Else, or 0, and of the end of the construct that begins at an index.
func parts(code []api.Instr, at int) (int, int) {
	depth, middle := 0, 0
	for i := at; i < len(code); i++ {
		switch code[i].Op {
		case api.If, api.Loop:
			depth++
		case api.EndIf, api.EndLoop:
			depth--
		case api.Else:
			if depth == 1 {
				middle = i
			}
		}
		if depth == 0 {
			return middle, i
		}
	}
	return 0, 0
}

func (r *reading) issue(at int, active lanes) {
	r.issues = append(r.issues, api.Issue{PC: at, Mask: active.mask()})
}

// block executes the instructions from an index to another one, and returns the lanes that reach the end.
func (r *reading) block(at, end int, active lanes, innermost *leaving) lanes {
	for at < end {
		r.issue(at, active)
		in := r.p.Code[at]
		middle, last := parts(r.p.Code, at)
		switch in.Op {
		case api.If:
			active = r.branch(at, middle, last, active, innermost)
			at = last
		case api.Loop:
			if active != (lanes{}) {
				active = r.loop(at, last, active)
			}
			at = last
		case api.Break:
			innermost.loop.add(active)
			active = lanes{}
		case api.Continue:
			innermost.iteration.add(active)
			active = lanes{}
		case api.Discard:
			r.discarded.add(active)
			active = lanes{}
		default:
			r.simple(in, active)
		}
		at++
	}
	return active
}

func (r *reading) branch(at, middle, end int, before lanes, innermost *leaving) lanes {
	var taken lanes
	for i := range taken {
		taken[i] = before[i] && r.registers[i][r.p.Code[at].A] != 0
	}
	if middle == 0 {
		r.issue(end, r.block(at+1, end, taken, innermost))
	} else {
		r.issue(middle, r.block(at+1, middle, taken, innermost))
		r.issue(end, r.block(middle+1, end, before.without(taken), innermost))
	}
	return before.without(r.discarded, innermost.loop, innermost.iteration)
}

func (r *reading) loop(at, end int, before lanes) lanes {
	left := leaving{}
	for range r.p.Code[at].Imm {
		remaining := before.without(left.loop, r.discarded)
		if remaining == (lanes{}) {
			break
		}
		left.iteration = lanes{}
		r.issue(end, r.block(at+1, end, remaining, &left))
	}
	return before.without(r.discarded)
}

// simple executes an instruction that is no part of a construct.
func (r *reading) simple(in api.Instr, active lanes) {
	if d, _, _, _, _ := isa.Operands(in.Op); !d {
		return
	}
	for lane, isActive := range active {
		if isActive {
			r.registers[lane][in.Dst] = r.value(in, lane)
		}
	}
}

func (r *reading) value(in api.Instr, lane int) int {
	known := r.registers[lane]
	a, b, c := known[in.A], known[in.B], known[in.C]
	of := func(v api.Vec4) int { return []int{v.X, v.Y, v.Z, v.W}[in.Imm%4] }
	word := func(list []int) int {
		if in.Imm < len(list) {
			return int(int32(list[in.Imm]))
		}
		return 0
	}
	switch in.Op {
	case api.Input:
		if lane < len(r.inputs) {
			return word(r.inputs[lane])
		}
		return 0
	case api.Uniform:
		return word(r.b.Uniforms)
	case api.Sample:
		return of(interpreter.Texel(r.b, in.Imm/4, a, b, c))
	case api.Fetch:
		return of(interpreter.FetchTexel(r.b, in.Imm/4, a, b, c))
	case api.Load:
		return interpreter.LoadWord(r.b, in.Imm, a)
	}
	return isa.Compute(in.Op, a, b, c, in.Imm)
}

// TestP26_2Arbitrary compares the issues of arbitrary programs with the second reading, and each lane with a run of its own.
func TestP26_2Arbitrary(t *testing.T) {
	s := state(5)
	diverged, empty := 0, 0
	for range 2500 {
		p, b, inputs, active := s.program(), s.bindings(), s.lists(s.next(20)), s.mask()
		want := expectedTrace(p, b, inputs, active)
		want = want[:min(len(want), 4096)]
		got, code := machine.Trace(p, b, inputs, active, math.MaxInt)
		if code != api.OK || !slices.Equal(got, want) {
			t.Fatalf("the issues of %s for %v and %04x are %v, error %d, want %v", listing(p), inputs, active, got, code, want)
		}
		for _, issue := range got {
			if issue.Mask == 0 {
				empty++
			} else if issue.Mask != active {
				diverged++
			}
		}
		for lane := range 16 {
			if active>>lane%2 == 0 {
				continue
			}
			alone, _ := machine.Trace(p, b, inputs, 1<<lane, math.MaxInt)
			if len(got) < 4096 && !slices.Equal(indices(alone, lane), indices(got, lane)) {
				t.Fatalf("lane %d of %s executes %v, and alone %v", lane, listing(p), indices(got, lane), indices(alone, lane))
			}
		}
	}
	if diverged < 10000 || empty < 2000 {
		t.Errorf("only %d masks diverged, and %d were empty", diverged, empty)
	}
}

// indices returns the indices of the issues for a lane.
func indices(issues []api.Issue, lane int) []int {
	var list []int
	for _, issue := range issues {
		if issue.Mask>>lane%2 == 1 {
			list = append(list, issue.PC)
		}
	}
	return list
}
