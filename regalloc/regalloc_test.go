package regalloc_test

import (
	"fmt"
	"math"
	"slices"
	"strings"
	"testing"

	"frustum/api"
	"frustum/isa"
	"frustum/lower"
	"frustum/optimize"
	"frustum/parser"
	"frustum/regalloc"
)

// stageOf returns a stage that has all instructions of a text.
func stageOf(text string) api.Stage {
	switch {
	case strings.Contains(text, "discard"):
		return api.FragmentStage
	case strings.Contains(text, "emit"), strings.Contains(text, "cut"):
		return api.GeometryStage
	}
	return api.VertexStage
}

// checkIntervals checks the intervals of the first registers of a program; the other ones are not mentioned.
func checkIntervals(t *testing.T, text string, want ...[2]int) {
	t.Helper()
	p := assemble(t, stageOf(text), text)
	code := slices.Clone(p.Code)
	for len(want) < p.Registers {
		want = append(want, [2]int{-1, -2})
	}
	if got := regalloc.Intervals(p); !slices.Equal(got, want) {
		t.Errorf("the intervals of %s are %v, want %v", text, got, want)
	}
	if !slices.Equal(code, p.Code) {
		t.Error("Intervals changed the program")
	}
}

func TestP25_1Intervals(t *testing.T) {
	none := [2]int{-1, -2}
	checkIntervals(t, "")
	checkIntervals(t, "const r0 1; const r1 2; add r2 r0 r1; output r2 0", [2]int{0, 2}, [2]int{1, 2}, [2]int{2, 3})
	checkIntervals(t, "const r0 1", [2]int{0, 0})
	checkIntervals(t, "const r1 1; const r1 2", none, [2]int{0, 1})
	checkIntervals(t, "const r0 1; const r1 2; const r0 3; output r0 1; const r1 4", [2]int{0, 3}, [2]int{1, 4})
	// Read before written, and read and written by the same instruction.
	checkIntervals(t, "output r0 0; const r0 1", [2]int{-1, 1})
	checkIntervals(t, "const r1 1; add r0 r0 r1; output r0 0", [2]int{-1, 2}, [2]int{0, 1})
	checkIntervals(t, "const r1 1; add r0 r1 r0", [2]int{-1, 1}, [2]int{0, 1})
	checkIntervals(t, "move r0 r0", [2]int{-1, 0})
	checkIntervals(t, "select r0 r1 r2 r0", [2]int{-1, 0}, [2]int{-1, 0}, [2]int{-1, 0})
	checkIntervals(t, "const r0 1; const r0 1; add r0 r0 r0", [2]int{0, 2})
	checkIntervals(t, "sample r3 r0 r1 r2 0; fetch r4 r3 r3 r3 1; load r5 r4 1; input r6 1; uniform r7 1; output r5 1", [2]int{-1, 0}, [2]int{-1, 0}, [2]int{-1, 0}, [2]int{0, 1}, [2]int{1, 2}, [2]int{2, 5}, [2]int{3, 3}, [2]int{4, 4})
	checkIntervals(t, "emit; const r0 1; cut; output r0 1; emit", [2]int{1, 3})
	checkIntervals(t, "const r0 1; discard; output r0 1", [2]int{0, 2})
	// First mentioned inside of an If, at the If, and outside.
	checkIntervals(t, "const r0 1; if r0; const r1 2; output r1 0; else; const r2 3; output r2 0; end-if; output r0 0; const r3 1", [2]int{0, 8}, [2]int{-1, 3}, [2]int{-1, 6}, [2]int{9, 9})
	checkIntervals(t, "if r0; end-if", [2]int{-1, 0})
	checkIntervals(t, "const r0 1; if r0; const r0 2; end-if; const r1 2; if r0; output r1 1; end-if; const r2 1", [2]int{0, 5}, [2]int{4, 6}, [2]int{8, 8})
	checkIntervals(t, "const r0 1; if r0; if r0; end-if; const r1 2; end-if; const r1 3; const r2 4", [2]int{0, 2}, [2]int{-1, 6}, [2]int{7, 7})
	// Mentioned inside of a loop, and of a loop in a loop.
	checkIntervals(t, "const r0 1; const r1 1; loop 3; output r0 0; const r2 1; end-loop; const r3 1; output r1 0", [2]int{0, 5}, [2]int{1, 7}, [2]int{-1, 5}, [2]int{6, 6})
	checkIntervals(t, "const r0 1; const r1 1; loop 3; loop 2; output r0 0; end-loop; output r1 0; const r2 3; end-loop; const r3 1", [2]int{0, 8}, [2]int{1, 8}, [2]int{-1, 8}, [2]int{9, 9})
	checkIntervals(t, "const r0 1; loop 3; end-loop; output r0 0; loop 2; loop 2; loop 2; end-loop; end-loop; end-loop; const r1 1; output r1 1", [2]int{0, 3}, [2]int{10, 11})
	// Mentioned in loops one behind the other, and behind them.
	checkIntervals(t, "const r0 1; const r1 1; const r2 1; loop 2; output r0 0; output r1 0; end-loop; loop 2; output r1 0; output r2 0; end-loop; output r2 0", [2]int{0, 6}, [2]int{1, 10}, [2]int{2, 11})
	checkIntervals(t, "loop 2; const r0 1; end-loop; loop 2; const r1 1; end-loop; const r2 1; loop 2; end-loop", [2]int{-1, 2}, [2]int{-1, 5}, [2]int{6, 6})
	checkIntervals(t, "const r0 1; loop 2; if r0; break; end-if; end-loop; const r1 1", [2]int{0, 5}, [2]int{6, 6})
	// A loop inside of an If is an outermost loop, too.
	checkIntervals(t, "const r0 1; const r1 1; if r0; output r1 0; loop 2; output r0 0; end-loop; const r2 1; end-if; const r3 1", [2]int{0, 6}, [2]int{1, 3}, [2]int{-1, 7}, [2]int{9, 9})
	checkIntervals(t, "const r0 1; if r0; loop 2; loop 2; end-loop; if r0; const r1 1; end-if; end-loop; else; loop 3; const r2 1; end-loop; end-if", [2]int{0, 8}, [2]int{-1, 8}, [2]int{-1, 12})
	// A loop ends on the depth on which it began.
	checkIntervals(t, "loop 1; end-loop; const r0 1; if r0; end-if; const r1 1; loop 1; if r1; end-if; loop 1; end-loop; end-loop; const r2 1", [2]int{2, 3}, [2]int{5, 11}, [2]int{12, 12})
}

// checkAssign checks the numbers of the first registers of a program, and the pressure; the other registers are not mentioned.
func checkAssign(t *testing.T, text string, pressure int, want ...int) {
	t.Helper()
	p := assemble(t, stageOf(text), text)
	for len(want) < p.Registers {
		want = append(want, -1)
	}
	if got := regalloc.Assign(p); !slices.Equal(got, want) {
		t.Errorf("the numbers of %s are %v, want %v", text, got, want)
	}
	if got := regalloc.Pressure(p); got != pressure {
		t.Errorf("the pressure of %s is %d, want %d", text, got, pressure)
	}
}

func TestP25_2Assign(t *testing.T) {
	checkAssign(t, "", 0)
	checkAssign(t, "emit; loop 2; end-loop", 0)
	checkAssign(t, "const r0 1; const r1 2; add r2 r0 r1; output r2 0", 3, 0, 1, 2)
	checkAssign(t, "const r5 1", 1, -1, -1, -1, -1, -1, 0)
	// Intervals that lie behind one another, and those that touch.
	checkAssign(t, "const r0 1; const r1 2; const r2 3", 1, 0, 0, 0)
	checkAssign(t, "const r0 1; output r0 0; const r1 1; output r1 0", 1, 0, 0)
	checkAssign(t, "const r0 1; move r1 r0; move r2 r1; move r3 r2; output r3 0", 2, 0, 1, 0, 1)
	checkAssign(t, "const r3 1; move r2 r3; move r1 r2; move r0 r1; output r0 0", 2, 1, 0, 1, 0)
	// Intervals in one another, and numbers that become free again: the smallest one is taken.
	checkAssign(t, "const r0 1; const r1 2; const r2 3; output r1 0; const r3 4; output r2 0; const r4 5; output r0 0; output r3 0; output r4 0", 3, 0, 1, 2, 1, 2)
	checkAssign(t, "const r0 1; const r1 2; const r2 3; output r2 0; output r1 0; output r0 0; const r3 1; const r4 1; output r3 0; output r4 0", 3, 0, 1, 2, 0, 1)
	checkAssign(t, "const r0 1; const r1 2; output r0 0; const r2 3; output r1 0; const r3 4; output r2 0; output r3 0", 2, 0, 1, 0, 1)
	// Intervals that begin at the same index have numbers in the order of the registers.
	checkAssign(t, "select r4 r3 r1 r2; const r0 1; output r0 0", 4, 0, 0, 1, 2, 3)
	checkAssign(t, "output r9 0; output r1 0; const r5 1; output r5 0; output r4 0; const r6 1", 3, -1, 0, -1, -1, 1, 0, 0, -1, -1, 2)
	checkAssign(t, "add r0 r0 r1; const r2 5; output r0 0; const r3 5", 2, 0, 1, 1, 0)
	// Registers that are mentioned in loops and branches.
	checkAssign(t, "const r0 1; loop 2; const r1 1; end-loop; const r2 1; output r0 0", 2, 1, 0, 0)
	checkAssign(t, "const r0 1; loop 2; output r0 0; const r1 1; end-loop; const r2 1", 2, 1, 0, 0)
	checkAssign(t, "const r0 1; if r0; const r1 1; else; const r2 1; end-if; const r3 1; const r4 1; output r3 1", 3, 2, 0, 1, 0, 1)
}

// expectedIntervals is a second reading of P25.1, which searches for each register.
func expectedIntervals(p api.Program) [][2]int {
	mentions := func(in api.Instr, register int) (bool, bool) {
		d, _, _, _, _ := isa.Operands(in.Op)
		return slices.Contains(isa.Uses(in), register), d && in.Dst == register
	}
	open := func(at int, ops ...api.Opcode) int {
		count := 0
		for _, in := range p.Code[:at] {
			if slices.Contains(ops, in.Op) {
				count++
			}
			if in.Op == api.EndLoop || in.Op == api.EndIf && slices.Contains(ops, api.If) {
				count--
			}
		}
		return count
	}
	var intervals [][2]int
	for register := range p.Registers {
		interval := [2]int{-1, -2}
		for at, in := range p.Code {
			reads, writes := mentions(in, register)
			if !reads && !writes {
				continue
			}
			if interval[1] == -2 && writes && !reads && open(at, api.If, api.Loop) == 0 {
				interval[0] = at
			}
			interval[1] = max(interval[1], at)
			// The end of the loops around the instruction is where none of them is open any more.
			for end := at; open(at, api.Loop) > 0 && end < len(p.Code); end++ {
				if open(end+1, api.Loop) == 0 {
					interval[1] = max(interval[1], end)
					break
				}
			}
		}
		intervals = append(intervals, interval)
	}
	return intervals
}

// intersect reports whether two intervals have a common index.
func intersect(a, b [2]int) bool {
	for i := a[0]; i <= a[1]; i++ {
		if b[0] <= i && i <= b[1] {
			return true
		}
	}
	return false
}

// expectedAssign is a second reading of P25.2, which compares all intervals.
func expectedAssign(p api.Program, intervals [][2]int) []int {
	numbers := slices.Repeat([]int{-1}, len(intervals))
	for first := -1; first < len(p.Code); first++ {
		for register, interval := range intervals {
			if interval[0] == first && interval[1] != -2 {
				number := 0
				for taken(intervals, numbers, interval, number) {
					number++
				}
				numbers[register] = number
			}
		}
	}
	return numbers
}

// taken reports whether a register whose interval intersects another one has a number.
func taken(intervals [][2]int, numbers []int, interval [2]int, number int) bool {
	for register, n := range numbers {
		if n == number && intersect(intervals[register], interval) {
			return true
		}
	}
	return false
}

// expectedPressure counts the intervals that contain each index.
func expectedPressure(p api.Program, intervals [][2]int) int {
	most := 0
	for at := -1; at < len(p.Code); at++ {
		count := 0
		for _, interval := range intervals {
			if interval[0] <= at && at <= interval[1] {
				count++
			}
		}
		most = max(most, count)
	}
	return most
}

func equal(a, b api.LaneResult) bool {
	return slices.Equal(a.Outputs, b.Outputs) && a.Discarded == b.Discarded && slices.EqualFunc(a.Emitted, b.Emitted, slices.Equal) && slices.Equal(a.Cuts, b.Cuts)
}

// replaced returns an instruction with other registers, by its text.
func replaced(in api.Instr, numbers []int) string {
	words := strings.Fields(isa.Format(api.Program{Code: []api.Instr{in}}))
	for i, word := range words {
		var register int
		if n, _ := fmt.Sscanf(word, "r%d", &register); n == 1 && i > 0 {
			words[i] = fmt.Sprintf("r%d", numbers[register])
		}
	}
	return strings.Join(words, " ")
}

// checkAllocate compares a program with the one that has its registers allocated, and returns how many registers it has.
func checkAllocate(t *testing.T, p api.Program, s *state) int {
	t.Helper()
	code := slices.Clone(p.Code)
	intervals, numbers, pressure := regalloc.Intervals(p), regalloc.Assign(p), regalloc.Pressure(p)
	for a := range numbers {
		for b := range a {
			if intersect(intervals[a], intervals[b]) && numbers[a] == numbers[b] {
				t.Errorf("r%d and r%d have the number %d: %s", a, b, numbers[a], listing(p))
			}
		}
	}
	count := 0
	for _, number := range numbers {
		count = max(count, number+1)
	}
	if count != pressure {
		t.Errorf("there are %d numbers and a pressure of %d: %s", count, pressure, listing(p))
	}
	got, errno := regalloc.Allocate(p, count)
	if errno != api.OK || isa.Validate(got) != api.OK || got.Registers != count || len(got.Code) != len(p.Code) {
		t.Fatalf("the program %s has error %d, and %d registers: %s", listing(p), errno, got.Registers, listing(got))
	}
	for i, in := range p.Code {
		if want := replaced(in, numbers); strings.TrimSpace(isa.Format(api.Program{Code: got.Code[i : i+1]})) != want {
			t.Errorf("instruction %d is %v, want %s", i, got.Code[i], want)
		}
	}
	if more, errno := regalloc.Allocate(p, math.MaxInt); errno != api.OK || !isa.Equal(more, got) {
		t.Errorf("without a limit the program is %s, error %d", listing(more), errno)
	}
	if less, errno := regalloc.Allocate(p, count-1); errno != api.ErrFull || !isa.Equal(less, api.Program{}) {
		t.Errorf("with a limit below %d the program is %s, error %d", count, listing(less), errno)
	}
	for range 3 {
		b, inputs := s.bindings(), s.numbers(s.next(7))
		want, _ := lower.LaneOf(p, b, inputs)
		if result, errno := lower.LaneOf(got, b, inputs); errno != api.OK || !equal(result, want) {
			t.Errorf("the result is %v, error %d, want %v: %s", result, errno, want, listing(p))
		}
	}
	clear(got.Code[:cap(got.Code)])
	if !slices.Equal(code, p.Code) {
		t.Errorf("the program was changed: %s", listing(p))
	}
	return count
}

// TestP25_5Arbitrary compares all functions with their second readings and with the results of the programs, for arbitrary programs.
func TestP25_5Arbitrary(t *testing.T) {
	s := state(3)
	counts := map[int]int{}
	fewer := 0
	for range 2500 {
		p := s.program()
		want := expectedIntervals(p)
		if got := regalloc.Intervals(p); !slices.Equal(got, want) {
			t.Fatalf("the intervals of %s are %v, want %v", listing(p), got, want)
		}
		if got, numbers := regalloc.Assign(p), expectedAssign(p, want); !slices.Equal(got, numbers) {
			t.Fatalf("the numbers of %s are %v, want %v", listing(p), got, numbers)
		}
		if got, pressure := regalloc.Pressure(p), expectedPressure(p, want); got != pressure {
			t.Fatalf("the pressure of %s is %d, want %d", listing(p), got, pressure)
		}
		count := checkAllocate(t, p, &s)
		counts[count]++
		if _, occur := optimize.Size(p); count < occur {
			fewer++
		}
	}
	if len(counts) < 6 || fewer < 30 {
		t.Errorf("the programs need only %v registers, and %d of them fewer than there are", counts, fewer)
	}
}

// TestP25_5Straight has programs in which each register is written before it is read, so that many numbers become free again.
func TestP25_5Straight(t *testing.T) {
	s := state(4)
	for range 300 {
		p := api.Program{Stage: 1, Registers: 40, Inputs: 3, Outputs: 2}
		for i := range p.Registers {
			in := api.Instr{Op: api.Input, Dst: i, Imm: s.next(3)}
			if i > 0 && s.next(3) > 0 {
				in = api.Instr{Op: api.Sub, Dst: i, A: max(0, i-1-s.next(6)), B: max(0, i-1-s.next(3))}
			}
			p.Code = append(p.Code, in)
			if s.next(8) == 0 {
				p.Code = append(p.Code, api.Instr{Op: api.If, A: i}, api.Instr{Op: api.Output, A: max(0, i-s.next(5)), Imm: 1}, api.Instr{Op: api.EndIf})
			}
		}
		p.Code = append(p.Code, api.Instr{Op: api.Output, A: 39})
		// Registers that are not in the order in which they are written.
		order := make([]int, 40)
		for i := range order {
			order[i] = i * 17 % 40
		}
		mixed, _ := regalloc.Renumber(p, order, 40)
		for _, p := range []api.Program{p, mixed} {
			if got, want := regalloc.Assign(p), expectedAssign(p, expectedIntervals(p)); !slices.Equal(got, want) {
				t.Errorf("the numbers of %s are %v, want %v", listing(p), got, want)
			}
			if count := checkAllocate(t, p, &s); count > 12 {
				t.Errorf("%d registers are needed: %s", count, listing(p))
			}
		}
	}
}

// TestP25_5Modules allocates the registers of the programs of modules.
func TestP25_5Modules(t *testing.T) {
	s := state(8)
	saved := 0
	for _, text := range []string{
		"uniform u: vec4; in i: vec4; out o: vec4; main { o = u * 2.0 + i; }", "in i: vec4; out o: vec4; fn f(a: fixed) -> fixed { let b: fixed = a; if (b < 1.0) { b = b + 5.0; } return b; } main { o = vec4(f(i.x), f(0.5), f(f(2.0)), 1.0 + 2.0 * 3.0); }", "in i: vec4; out o: int; main { loop 5 { let a: int = o; loop 2 { let b: int = a; a = b + 1; if (a > int(i.x)) { break; } } o = o + a; } }", "in i: vec4; out o: vec4; main { o[int(i.x) & 3] = i[2]; o[1] = o[0]; let a: vec4 = o; o = a; }", "struct S { a: vec4; b: int; } uniform s: S; out o: S; main { o = s; o.b = 3; o.a.y = s.a.x; let t: S = o; if (o.b > 2) { o = t; } }",
	} {
		m, _, code := parser.Parse("shader vertex; " + text)
		p, errno := lower.Lower(m)
		if code != api.OK || errno != api.OK {
			t.Fatalf("the test is wrong: %s has error %d or %d", text, code, errno)
		}
		for _, p := range []api.Program{p, optimize.Optimize(p)} {
			saved += p.Registers - checkAllocate(t, p, &s)
		}
	}
	if saved < 100 {
		t.Errorf("only %d registers are saved", saved)
	}
}

func checkRenumber(t *testing.T, p api.Program, assignment []int, registers int, want api.Errno) {
	t.Helper()
	before := slices.Clone(assignment)
	got, errno := regalloc.Renumber(p, assignment, registers)
	if errno != want || want != api.OK && !isa.Equal(got, api.Program{}) || want == api.OK && (got.Registers != registers || isa.Validate(got) != api.OK) {
		t.Errorf("with the numbers %.60v and %d registers the program is %+v, error %d, want %d", fmt.Sprint(assignment), registers, header(got), errno, want)
	}
	if !slices.Equal(assignment, before) {
		t.Error("Renumber changed the numbers")
	}
}

// header returns a program without its instructions.
func header(p api.Program) api.Program {
	p.Code = nil
	return p
}

func TestP25_3Renumber(t *testing.T) {
	p := assemble(t, 2, "const r0 1; input r1 2; select r2 r0 r1 r3; if r2; sample r4 r3 r2 r1 5; load r5 r4 1; else; negate r6 r5; end-if; loop 2; output r6 1; emit; end-loop; move r7 r7")
	assignment := []int{7, 6, 5, 4, 3, 2, 1, 0, 99, -5}
	got, errno := regalloc.Renumber(p, assignment, 8)
	if want := "const r7 1; input r6 2; select r5 r7 r6 r4; if r5; sample r3 r4 r5 r6 5; load r2 r3 1; else; negate r1 r2; end-if; loop 2; output r1 1; emit; end-loop; move r0 r0"; errno != api.OK || listing(got) != want || got.Registers != 8 {
		t.Errorf("the program is %s with %d registers, error %d", listing(got), got.Registers, errno)
	}
	got.Registers, got.Code = p.Registers, p.Code
	if !isa.Equal(got, p) {
		t.Errorf("the numbers of the program are %v", header(got))
	}
	// Several registers may have the same number.
	got, errno = regalloc.Renumber(p, make([]int, 10), 1)
	if errno != api.OK || isa.Validate(got) != api.OK || got.Code[2] != (api.Instr{Op: api.Select}) || got.Code[4] != (api.Instr{Op: api.Sample, Imm: 5}) || got.Code[9] != (api.Instr{Op: api.Loop, Imm: 2}) {
		t.Errorf("with one register the program is %s, error %d", listing(got), errno)
	}
}

func TestP25_3Errors(t *testing.T) {
	p := assemble(t, 1, "const r0 1; add r3 r0 r2")
	good := []int{0, -9, 2, 3, 0, 0, 0, 0, 0, math.MaxInt}
	with := func(register, number int) []int {
		list := slices.Clone(good)
		list[register] = number
		return list
	}
	for registers, want := range map[int]api.Errno{4: api.OK, 5: api.OK, 10: api.OK, 8191: api.OK, 8192: api.OK, 8193: api.ErrRange, math.MaxInt: api.ErrRange, 3: api.ErrArgument, 0: api.ErrArgument, -1: api.ErrArgument, math.MinInt: api.ErrArgument} {
		checkRenumber(t, p, good, registers, want)
	}
	for _, register := range []int{0, 2, 3} {
		for number, want := range map[int]api.Errno{-1: api.ErrArgument, math.MinInt: api.ErrArgument, 0: api.OK, 3: api.OK, 4: api.ErrArgument, math.MaxInt: api.ErrArgument} {
			checkRenumber(t, p, with(register, number), 4, want)
		}
		checkRenumber(t, p, with(register, 8191), 8192, api.OK)
		checkRenumber(t, p, with(register, 8192), 8192, api.ErrArgument)
		checkRenumber(t, p, with(register, 8192), 8193, api.ErrRange)
		checkRenumber(t, p, with(register, 8193), 8193, api.ErrArgument)
	}
	for _, register := range []int{1, 4, 9} {
		for _, number := range []int{math.MinInt, -1, 0, 4, math.MaxInt} {
			checkRenumber(t, p, with(register, number), 4, api.OK)
		}
	}
	// Lists that are too short or too long.
	for length := range 13 {
		want := api.ErrArgument
		if length == 10 {
			want = api.OK
		}
		checkRenumber(t, p, make([]int, length), 4, want)
	}
	checkRenumber(t, p, nil, 8193, api.ErrArgument)
	checkRenumber(t, p, make([]int, 11), -1, api.ErrArgument)
	// Without registers that are mentioned only the numbers of registers and of elements count.
	for registers, want := range map[int]api.Errno{0: api.OK, 8192: api.OK, 8193: api.ErrRange, -1: api.ErrRange, math.MinInt: api.ErrRange, math.MaxInt: api.ErrRange} {
		checkRenumber(t, assemble(t, 2, "emit; loop 2; end-loop"), make([]int, 10), registers, want)
		checkRenumber(t, api.Program{Stage: 1}, nil, registers, want)
		checkRenumber(t, api.Program{Stage: 1}, []int{0}, registers, api.ErrArgument)
	}
	for _, p := range wrongPrograms() {
		checkRenumber(t, p, []int{0, 0}, 2, api.ErrShader)
		checkRenumber(t, p, []int{9}, 2, api.ErrShader)
		checkRenumber(t, p, nil, -1, api.ErrShader)
	}
}

func TestP25_4Allocate(t *testing.T) {
	p := assemble(t, 1, "const r4 1; const r7 2; add r9 r4 r7; output r9 0; const r2 3; output r2 1")
	for limit, want := range map[int]api.Errno{math.MinInt: api.ErrFull, -1: api.ErrFull, 0: api.ErrFull, 1: api.ErrFull, 2: api.ErrFull, 3: api.OK, 4: api.OK, 8192: api.OK, 8193: api.OK, math.MaxInt: api.OK} {
		got, errno := regalloc.Allocate(p, limit)
		text, registers := "const r0 1; const r1 2; add r2 r0 r1; output r2 0; const r0 3; output r0 1", 3
		if want != api.OK {
			text, registers = "", 0
		}
		if errno != want || listing(got) != text || got.Registers != registers {
			t.Errorf("with the limit %d the program is %s with %d registers, error %d", limit, listing(got), got.Registers, errno)
		}
	}
	// Programs without registers need none.
	for _, p := range []api.Program{{Stage: 1}, assemble(t, 2, ""), assemble(t, 2, "emit; loop 2; cut; end-loop")} {
		got, errno := regalloc.Allocate(p, 0)
		if errno != api.OK || got.Registers != 0 || !slices.Equal(got.Code, p.Code) || got.Stage != p.Stage {
			t.Errorf("without registers the program is %+v, error %d", got, errno)
		}
		if got, errno := regalloc.Allocate(p, -1); errno != api.ErrFull || !isa.Equal(got, api.Program{}) {
			t.Errorf("with a negative limit the program is %+v, error %d", got, errno)
		}
	}
	for _, p := range wrongPrograms() {
		for _, limit := range []int{math.MinInt, -1, 0, 1, 8192, math.MaxInt} {
			if got, errno := regalloc.Allocate(p, limit); errno != api.ErrShader || !isa.Equal(got, api.Program{}) {
				t.Errorf("a program with an error becomes %+v, error %d", got, errno)
			}
		}
	}
}

func TestP25_2Invalid(t *testing.T) {
	for _, p := range wrongPrograms() {
		if got := regalloc.Intervals(p); len(got) > 0 {
			t.Errorf("the intervals of a program with an error are %v", got)
		}
		if got := regalloc.Pressure(p); got != 0 {
			t.Errorf("the pressure of a program with an error is %d", got)
		}
		if got := regalloc.Assign(p); len(got) > 0 {
			t.Errorf("the numbers of a program with an error are %v", got)
		}
	}
	empty := api.Program{Stage: 3}
	if len(regalloc.Intervals(empty)) > 0 || regalloc.Pressure(empty) != 0 || len(regalloc.Assign(empty)) > 0 {
		t.Error("an empty program has intervals")
	}
}

// TestP25_2Large has programs with as many registers as there can be.
func TestP25_2Large(t *testing.T) {
	chain, all := api.Program{Stage: 1, Registers: 8192}, api.Program{Stage: 1, Registers: 8192, Outputs: 1}
	for i := range 8191 {
		chain.Code = append(chain.Code, api.Instr{Op: api.Negate, Dst: i + 1, A: i})
	}
	for i := range 8192 {
		all.Code = append(all.Code, api.Instr{Op: api.Const, Dst: 8191 - i})
	}
	for i := range 8192 {
		all.Code = append(all.Code, api.Instr{Op: api.Output, A: i})
	}
	if got := regalloc.Pressure(chain); got != 2 {
		t.Errorf("the pressure of a chain is %d", got)
	}
	for i, number := range regalloc.Assign(chain) {
		if number != i%2 {
			t.Fatalf("register %d of a chain has the number %d", i, number)
		}
	}
	if got := regalloc.Pressure(all); got != 8192 {
		t.Errorf("the pressure of registers that are all live is %d", got)
	}
	for i, number := range regalloc.Assign(all) {
		if number != 8191-i {
			t.Fatalf("register %d has the number %d", i, number)
		}
	}
	if got, errno := regalloc.Allocate(all, 8192); errno != api.OK || got.Registers != 8192 || got.Code[0] != (api.Instr{Op: api.Const}) {
		t.Errorf("the program has %d registers, error %d", got.Registers, errno)
	}
	if _, errno := regalloc.Allocate(all, 8191); errno != api.ErrFull {
		t.Errorf("with too few registers the error is %d", errno)
	}
}

// TestP25_1Memory changes results, which share no memory.
func TestP25_1Memory(t *testing.T) {
	p := assemble(t, 1, "const r0 1; const r1 2; add r2 r0 r1; output r2 0")
	intervals, numbers := regalloc.Intervals(p), regalloc.Assign(p)
	clear(intervals)
	clear(numbers)
	if got := regalloc.Intervals(p); got[1] != [2]int{1, 2} {
		t.Errorf("the intervals share memory: %v", got)
	}
	if got := regalloc.Assign(p); got[2] != 2 {
		t.Errorf("the numbers share memory: %v", got)
	}
}
