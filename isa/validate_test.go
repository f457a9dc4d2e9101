package isa_test

import (
	"math"
	"slices"
	"strings"
	"testing"

	"frustum/api"
	"frustum/isa"
)

// state makes arbitrary numbers.
type state uint64

func (s *state) next(beyond int) int {
	*s = *s*6364136223846793005 + 1442695040888963407
	return int(*s>>33) % beyond
}

// program returns a program without instructions that has some of everything.
func program(stage api.Stage, code ...api.Instr) api.Program {
	return api.Program{Stage: stage, Registers: 5, Inputs: 3, Outputs: 2, Uniforms: 4, Textures: 2, Buffers: 3, Code: code}
}

// bounds returns the range of Imm for an opcode in a program.
func bounds(p api.Program, op api.Opcode) (int, int) {
	inputs := p.Inputs
	if p.Stage == api.FragmentStage {
		inputs *= 3
	}
	switch op {
	case api.Const:
		return low, high
	case api.Input:
		return 0, inputs - 1
	case api.Uniform:
		return 0, p.Uniforms - 1
	case api.Output:
		return 0, p.Outputs - 1
	case api.Sample, api.Fetch:
		return 0, 4*p.Textures - 1
	case api.Load:
		return 0, p.Buffers - 1
	}
	return 1, 16
}

// uses reports whether an opcode uses a field: d, a, b, c or i.
func uses(op api.Opcode, field string) bool {
	_, fields := row(op)
	return slices.Contains(strings.Fields(fields), field)
}

// instruction returns an instruction with the greatest registers and numbers that are allowed.
func instruction(p api.Program, op api.Opcode) api.Instr {
	in := api.Instr{Op: op}
	for field, register := range map[string]*int{"d": &in.Dst, "a": &in.A, "b": &in.B, "c": &in.C} {
		if uses(op, field) {
			*register = p.Registers - 1
		}
	}
	if uses(op, "i") {
		_, in.Imm = bounds(p, op)
	}
	return in
}

func checkValidate(t *testing.T, what string, p api.Program, want api.Errno) {
	t.Helper()
	before := slices.Clone(p.Code)
	if got := isa.Validate(p); got != want {
		t.Errorf("%s has error %d, want %d", what, got, want)
	}
	if !slices.Equal(p.Code, before) {
		t.Errorf("%s was changed", what)
	}
}

// closed returns the instructions around an opcode that make it a program by itself.
func closed(in api.Instr) []api.Instr {
	begin, end := []api.Instr{}, []api.Instr{}
	switch in.Op {
	case api.If:
		end = []api.Instr{{Op: api.EndIf}}
	case api.Else:
		begin, end = []api.Instr{{Op: api.If}}, []api.Instr{{Op: api.EndIf}}
	case api.EndIf:
		begin = []api.Instr{{Op: api.If}}
	case api.Loop:
		end = []api.Instr{{Op: api.EndLoop}}
	case api.Break, api.Continue:
		begin, end = []api.Instr{{Op: api.Loop, Imm: 1}}, []api.Instr{{Op: api.EndLoop}}
	case api.EndLoop:
		begin = []api.Instr{{Op: api.Loop, Imm: 1}}
	}
	return slices.Concat(begin, []api.Instr{in}, end)
}

// isOf reports whether programs of a stage can have an opcode.
func isOf(stage api.Stage, op api.Opcode) bool {
	return (op != api.Discard || stage == api.FragmentStage) && (op != api.Emit && op != api.Cut || stage == api.GeometryStage)
}

func TestP22_3Header(t *testing.T) {
	for _, stage := range []api.Stage{math.MinInt, -1, 0, 4, 5, 1<<32 + 1, math.MaxInt} {
		checkValidate(t, "a program of an unknown stage", program(stage), api.ErrKind)
	}
	for stage := api.VertexStage; stage <= api.FragmentStage; stage++ {
		checkValidate(t, "an empty program", api.Program{Stage: stage}, api.OK)
		checkValidate(t, "a program without instructions", program(stage), api.OK)
		var p api.Program
		for field, limit := range map[*int]int{&p.Registers: 8192, &p.Inputs: 32, &p.Outputs: 32, &p.Uniforms: 64, &p.Textures: 4, &p.Buffers: 4} {
			for n, want := range map[int]api.Errno{math.MinInt: api.ErrRange, -1: api.ErrRange, 0: api.OK, 1: api.OK, limit: api.OK, limit + 1: api.ErrRange, 1 << 32: api.ErrRange, math.MaxInt: api.ErrRange} {
				p = api.Program{Stage: stage}
				*field = n
				checkValidate(t, "a program with a number at its limit", p, want)
				// The stage is checked before, and everything else behind it.
				p.Stage = 0
				checkValidate(t, "a program without a stage and with a number at its limit", p, api.ErrKind)
				p.Stage, p.Code = stage, make([]api.Instr, 16385)
				if want == api.OK {
					want = api.ErrTooLong
				}
				checkValidate(t, "a long program with a number at its limit", p, want)
			}
		}
	}
}

func TestP22_3Length(t *testing.T) {
	move := api.Instr{Op: api.Move, Dst: 1, A: 2}
	for count, want := range map[int]api.Errno{0: api.OK, 1: api.OK, 16383: api.OK, 16384: api.OK, 16385: api.ErrTooLong, 40000: api.ErrTooLong} {
		checkValidate(t, "a long program", program(1, slices.Repeat([]api.Instr{move}, count)...), want)
	}
	checkValidate(t, "a long program with an unknown opcode", program(1, make([]api.Instr, 16385)...), api.ErrTooLong)
}

// TestP22_3Fields changes each field of each opcode.
func TestP22_3Fields(t *testing.T) {
	for stage := api.VertexStage; stage <= api.FragmentStage; stage++ {
		for op := api.Opcode(1); op <= 52; op++ {
			if !isOf(stage, op) {
				checkValidate(t, isa.Name(op)+" in a wrong stage", program(stage, closed(api.Instr{Op: op})...), api.ErrState)
				continue
			}
			p := program(stage)
			good := instruction(p, op)
			check := func(in api.Instr, want api.Errno) {
				t.Helper()
				p.Code = closed(in)
				checkValidate(t, isa.Format(p), p, want)
			}
			check(good, api.OK)
			in := good
			for field, place := range map[string]*int{"d": &in.Dst, "a": &in.A, "b": &in.B, "c": &in.C, "i": &in.Imm} {
				least, most := 0, p.Registers-1
				if field == "i" {
					least, most = bounds(p, op)
				}
				for _, n := range []int{math.MinInt, -1 << 32, least - 1, least, 0, 1, most, most + 1, 1 << 32, math.MaxInt} {
					in = good
					*place = n
					switch {
					case !uses(op, field) && n != 0:
						check(in, api.ErrArgument)
					case uses(op, field) && (n < least || n > most):
						check(in, api.ErrRange)
					default:
						check(in, api.OK)
					}
				}
			}
		}
		for _, op := range noOpcodes() {
			checkValidate(t, "an unknown opcode", program(stage, api.Instr{Op: op}), api.ErrKind)
			checkValidate(t, "an unknown opcode with fields", program(stage, api.Instr{Op: op, Dst: -1, A: -1, B: 9, C: 9, Imm: 9}), api.ErrKind)
		}
	}
	// Without registers, inputs and so on there are no numbers for them.
	for op := api.Opcode(1); op <= 52; op++ {
		_, fields := row(op)
		want := api.ErrRange
		if fields == "" || fields == "i" {
			want = api.OK
		}
		if isOf(api.FragmentStage, op) && op != api.Else && op != api.EndIf {
			checkValidate(t, isa.Name(op)+" without registers", api.Program{Stage: 3, Code: closed(api.Instr{Op: op, Imm: truth(op == api.Loop)})}, want)
		}
	}
}

// TestP22_3Pairs has instructions with two errors, and two instructions with an error each.
func TestP22_3Pairs(t *testing.T) {
	kind, argument, wide, placed := api.Instr{Op: 99}, api.Instr{Op: api.Else, A: 1}, api.Instr{Op: api.Move, Dst: 5}, api.Instr{Op: api.EndIf}
	wrong := map[api.Instr]api.Errno{kind: api.ErrKind, argument: api.ErrArgument, wide: api.ErrRange, placed: api.ErrState, {Op: api.Loop, Imm: 17}: api.ErrRange, {Op: api.Const, Imm: high + 1}: api.ErrRange, {Op: api.Discard}: api.ErrState}
	for a, want := range wrong {
		for b := range wrong {
			checkValidate(t, "a program with two errors", program(1, a, b), want)
			checkValidate(t, "a program with two errors and an open construct", program(1, api.Instr{Op: api.If}, api.Instr{Op: api.Loop, Imm: 1}, a, b), want)
		}
	}
	for _, c := range []struct {
		in   api.Instr
		want api.Errno
	}{
		{api.Instr{Op: 0, Dst: -1}, api.ErrKind}, {api.Instr{Op: api.Move, Dst: -1, Imm: 1}, api.ErrArgument}, {api.Instr{Op: api.EndLoop, Imm: 1}, api.ErrArgument}, {api.Instr{Op: api.Discard, C: 1}, api.ErrArgument}, {api.Instr{Op: api.Loop, Imm: 99, B: 1}, api.ErrArgument}, {api.Instr{Op: api.If, A: 9, Dst: 1}, api.ErrArgument},
	} {
		checkValidate(t, "an instruction with two errors", program(1, c.in), c.want)
	}
	// A loop that is too long and too deep.
	deep := slices.Repeat([]api.Instr{{Op: api.Loop, Imm: 2}}, 3)
	checkValidate(t, "a loop with two errors", program(1, append(deep, api.Instr{Op: api.Loop, Imm: 17})...), api.ErrRange)
	checkValidate(t, "a loop that is too deep", program(1, append(deep, api.Instr{Op: api.Loop, Imm: 16})...), api.ErrState)
}

// letters returns a program whose constructs are given by letters: i e f for If, Else and EndIf, l o for Loop and EndLoop, b c for Break and Continue.
func letters(stage api.Stage, text string) api.Program {
	p := program(stage)
	for _, letter := range text {
		op := map[rune]api.Opcode{'i': api.If, 'e': api.Else, 'f': api.EndIf, 'l': api.Loop, 'o': api.EndLoop, 'b': api.Break, 'c': api.Continue, 'm': api.Move, 'd': api.Discard, 't': api.Emit, 'u': api.Cut}[letter]
		p.Code = append(p.Code, api.Instr{Op: op, Imm: truth(op == api.Loop)})
	}
	return p
}

func TestP22_3Constructs(t *testing.T) {
	for text, good := range map[string]bool{
		"": true, "if": true, "ief": true, "lo": true, "iiff": true, "ilof": true, "lifo": true, "ifif": true, "loloifo": false, "lolo": true, "iefief": true, "iiefef": true, "iieffef": false, "ieiff": true, "ieiefef": false, "lllooo": true, "llllo": false, "lloololoo": false, "llololoo": true, "lllolooo": true, "lllololoolo": false,
		"lllloooo": false, "llliloofoo": false, "lilillooffoo": false, "illlooof": true, "lllilofooo": false, "lllooolllooo": true, "lloolllooo": true,
		"e": false, "f": false, "o": false, "i": false, "ie": false, "l": false, "ieef": false, "iff": false, "loo": false, "ilfo": false, "liof": false, "leo": false, "ileof": false, "lifeo": false, "lf": false, "io": false, "il": false, "li": false, "ieo": false,
		"b": false, "c": false, "ibf": false, "lbo": true, "lco": true, "lob": false, "lbocl": false, "libfo": true, "liebfco": true, "llocobo": false, "llboco": true, "ilbof": true, "ilobf": false, "lbbo": true, "limfcmo": true, "m": true, "lmo": true,
		strings.Repeat("i", 1000) + strings.Repeat("f", 1000): true, strings.Repeat("i", 1000) + strings.Repeat("f", 999): false, strings.Repeat("ie", 5000) + strings.Repeat("f", 5000): true, "lll" + strings.Repeat("i", 50) + "b" + strings.Repeat("f", 50) + "ooo": true,
	} {
		want := api.ErrState
		if good {
			want = api.OK
		}
		for stage := api.VertexStage; stage <= api.FragmentStage; stage++ {
			checkValidate(t, text, letters(stage, text), want)
		}
	}
	for text, stage := range map[string]api.Stage{"d": 3, "t": 2, "u": 2, "lidfo": 3, "ietuf": 2, "lduo": 0} {
		for s := api.VertexStage; s <= api.FragmentStage; s++ {
			want := api.ErrState
			if s == stage {
				want = api.OK
			}
			checkValidate(t, text, letters(s, text), want)
		}
	}
}

// innermost finds the innermost construct that is open behind instructions, by counting back, and whether it has an Else.
func innermost(code []api.Instr) (api.Opcode, bool) {
	ends, hasElse := 0, false
	for _, in := range slices.Backward(code) {
		switch in.Op {
		case api.EndIf, api.EndLoop:
			ends++
		case api.Else:
			hasElse = hasElse || ends == 0
		case api.If, api.Loop:
			if ends == 0 {
				return in.Op, hasElse
			}
			ends--
		}
	}
	return 0, false
}

// loops counts the loops that are open behind instructions.
func loops(code []api.Instr) int {
	count := 0
	for _, in := range code {
		count += truth(in.Op == api.Loop) - truth(in.Op == api.EndLoop)
	}
	return count
}

// expectedState is a second reading of the errors of constructs.
func expectedState(p api.Program) api.Errno {
	for i, in := range p.Code {
		before := p.Code[:i]
		op, hasElse := innermost(before)
		if in.Op == api.Else && (op != api.If || hasElse) || in.Op == api.EndIf && op != api.If || in.Op == api.EndLoop && op != api.Loop || (in.Op == api.Break || in.Op == api.Continue) && loops(before) == 0 || in.Op == api.Loop && loops(before) >= 3 {
			return api.ErrState
		}
	}
	if op, _ := innermost(p.Code); op != 0 {
		return api.ErrState
	}
	return api.OK
}

// TestP22_3AllConstructs has all short lists of constructs, and arbitrary longer ones.
func TestP22_3AllConstructs(t *testing.T) {
	valid := 0
	check := func(text string) {
		p := letters(1, text)
		want := expectedState(p)
		if got := isa.Validate(p); got != want {
			t.Fatalf("%s has error %d, want %d", text, got, want)
		}
		valid += truth(want == api.OK)
	}
	var all func(text string, more int)
	all = func(text string, more int) {
		check(text)
		for i := 0; i < 6 && more > 0; i++ {
			all(text+"ieflob"[i:i+1], more-1)
		}
	}
	all("", 6)
	s := state(1)
	for range 20000 {
		text := ""
		for range s.next(24) {
			text += string("ieflobci"[s.next(8)])
			// The closing sign that fits keeps lists valid for longer.
			if op, _ := innermost(letters(1, text).Code); op == api.If && s.next(3) == 0 {
				text += "f"
			} else if op == api.Loop && s.next(3) == 0 {
				text += "o"
			}
		}
		check(text)
	}
	for range 2000 {
		text := ""
		for range 3 + s.next(3) {
			text = strings.Repeat("i", s.next(2)) + "l" + text + "o"
			text += strings.Repeat("f", strings.Count(text, "i")-strings.Count(text, "f"))
		}
		check(text)
		check(text + text)
	}
	if valid < 1000 {
		t.Errorf("only %d lists are valid", valid)
	}
}
