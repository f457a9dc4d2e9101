package optimize_test

import (
	"fmt"
	"slices"
	"strings"
	"testing"

	"frustum/api"
	"frustum/isa"
	"frustum/lower"
	"frustum/optimize"
	"frustum/parser"
)

// passes are the functions that return a program.
func passes() map[string]func(api.Program) api.Program {
	return map[string]func(api.Program) api.Program{"Fold": optimize.Fold, "Propagate": optimize.Propagate, "RemoveDead": optimize.RemoveDead, "Optimize": optimize.Optimize}
}

// stageOf returns a stage that has all instructions of a text.
func stageOf(text string) api.Stage {
	switch {
	case strings.Contains(text, "discard"):
		return api.FragmentStage
	case strings.Contains(text, "emit"), strings.Contains(text, "cut"):
		return api.GeometryStage
	}
	return api.VertexStage
}

// checkPass checks the instructions behind a pass.
func checkPass(t *testing.T, name, text, want string) {
	t.Helper()
	p := assemble(t, stageOf(text), text)
	code := slices.Clone(p.Code)
	got := passes()[name](p)
	if listing(got) != want || !isa.Equal(header(got), header(p)) {
		t.Errorf("%s of %s is\n%s, want\n%s", name, text, listing(got), want)
	}
	if !slices.Equal(code, p.Code) {
		t.Errorf("%s of %s changed its argument", name, text)
	}
	clear(got.Code[:cap(got.Code)])
	if !slices.Equal(code, p.Code) {
		t.Errorf("%s of %s shares memory with its argument", name, text)
	}
}

func TestP24_1Fold(t *testing.T) {
	for text, want := range map[string]string{
		"": "", "const r0 2; const r1 3; mul-int r2 r0 r1": "const r0 2; const r1 3; const r2 6",
		"const r0 2147483647; const r1 1; add-int r2 r0 r1; mul-int r3 r2 r2; not-int r4 r0":                                                               "const r0 2147483647; const r1 1; const r2 -2147483648; const r3 0; const r4 -2147483648",
		"const r0 2147483647; max r1 r0 r0; abs r2 r0; const r3 -2147483648; min r4 r3 r0; move r5 r3; negate-int r6 r3; add r7 r3 r3; select r8 r3 r0 r3": "const r0 2147483647; const r1 2147483647; const r2 536870911; const r3 -2147483648; const r4 -2147483648; const r5 -2147483648; const r6 -2147483648; const r7 -536870911; const r8 2147483647",
		"add r2 r0 r1": "add r2 r0 r1", "const r0 1; add r2 r0 r1; add r3 r1 r0; add r4 r0 r0": "const r0 1; add r2 r0 r1; add r3 r1 r0; const r4 2", "move r1 r0": "move r1 r0", "const r0 1; move r1 r0; negate r2 r1; abs r3 r2": "const r0 1; const r1 1; const r2 -1; const r3 1",
		// A register that is read and written by the same instruction, and ones that become unknown.
		"const r0 1; add r0 r0 r0; add r0 r0 r0; move r1 r0": "const r0 1; const r0 2; const r0 4; const r1 4", "const r0 1; add r0 r0 r1; move r2 r0": "const r0 1; add r0 r0 r1; move r2 r0", "const r0 1; input r0 0; move r1 r0": "const r0 1; input r0 0; move r1 r0", "const r0 1; const r1 2; uniform r0 1; move r2 r0; move r3 r1": "const r0 1; const r1 2; uniform r0 1; move r2 r0; const r3 2", "const r0 1; sample r0 r0 r0 r0 1; move r1 r0": "const r0 1; sample r0 r0 r0 r0 1; move r1 r0", "const r0 1; fetch r1 r0 r0 r0 1; move r2 r1; move r3 r0": "const r0 1; fetch r1 r0 r0 r0 1; move r2 r1; const r3 1", "const r0 1; load r0 r0 1; not-bool r1 r0": "const r0 1; load r0 r0 1; not-bool r1 r0", "const r0 1; const r0 2; move r1 r0": "const r0 1; const r0 2; const r1 2", "const r0 1; move r0 r1; move r2 r0; const r0 5; move r2 r0": "const r0 1; move r0 r1; move r2 r0; const r0 5; const r2 5",
		// Output writes no register.
		"const r0 1; output r0 1; move r1 r0": "const r0 1; output r0 1; const r1 1",
		// Select with a known choice.
		"const r0 1; select r3 r0 r1 r2; move r4 r3": "const r0 1; move r3 r1; move r4 r3", "const r0 0; select r3 r0 r1 r2": "const r0 0; move r3 r2", "const r0 -5; const r1 7; select r3 r0 r1 r2; move r4 r3": "const r0 -5; const r1 7; move r3 r1; move r4 r3", "const r0 0; const r1 7; select r3 r0 r1 r2; move r4 r3": "const r0 0; const r1 7; move r3 r2; move r4 r3", "const r0 0; const r1 7; select r3 r0 r2 r1; move r4 r3": "const r0 0; const r1 7; move r3 r1; move r4 r3", "const r0 3; const r1 7; const r2 8; select r3 r0 r1 r2; move r4 r3": "const r0 3; const r1 7; const r2 8; const r3 7; const r4 7", "const r0 0; const r1 7; const r2 8; select r3 r0 r1 r2; move r4 r3": "const r0 0; const r1 7; const r2 8; const r3 8; const r4 8", "const r1 7; const r2 8; select r3 r0 r1 r2; move r4 r3": "const r1 7; const r2 8; select r3 r0 r1 r2; move r4 r3", "const r1 1; select r3 r0 r1 r1": "const r1 1; select r3 r0 r1 r1", "const r0 1; const r3 2; select r3 r0 r3 r1; move r4 r3": "const r0 1; const r3 2; move r3 r3; move r4 r3", "const r0 1; select r0 r0 r1 r2; move r4 r0": "const r0 1; move r0 r1; move r4 r0", "const r0 1; select r1 r0 r0 r0; select r2 r0 r0 r3": "const r0 1; const r1 1; move r2 r0",
		// Control instructions read registers, but are not replaced, and nothing is known behind them.
		"const r0 1; if r0; move r1 r0; const r2 5; move r3 r2; else; move r4 r2; end-if; move r5 r0; const r6 4; move r7 r6":                                       "const r0 1; if r0; move r1 r0; const r2 5; const r3 5; else; move r4 r2; end-if; move r5 r0; const r6 4; const r7 4",
		"const r0 1; move r1 r0; loop 3; move r2 r0; const r0 2; move r2 r0; break; move r3 r0; const r0 2; continue; move r3 r0; const r0 2; end-loop; move r4 r0": "const r0 1; const r1 1; loop 3; move r2 r0; const r0 2; const r2 2; break; move r3 r0; const r0 2; continue; move r3 r0; const r0 2; end-loop; move r4 r0",
		"const r0 1; emit; move r1 r0; const r0 2; cut; move r2 r0; const r3 1; move r3 r3":                                                                         "const r0 1; emit; move r1 r0; const r0 2; cut; move r2 r0; const r3 1; const r3 1", "const r0 1; discard; move r1 r0": "const r0 1; discard; move r1 r0", "const r0 1; if r1; end-if; move r1 r0": "const r0 1; if r1; end-if; move r1 r0",
	} {
		checkPass(t, "Fold", text, want)
	}
}

// TestP24_1Opcodes folds every opcode with all, with some and with no registers known.
func TestP24_1Opcodes(t *testing.T) {
	s := state(1)
	for op := api.Const; op <= api.Load; op++ {
		for range 40 {
			n := []int{int(int32(s.number())), int(int32(s.number())), int(int32(s.number()))}
			for unknown := range 8 {
				p := assemble(t, 1, fmt.Sprintf("const r1 %d; const r2 %d; const r3 %d", n[0], n[1], n[2]))
				known := true
				for i := range 3 {
					if unknown>>i&1 == 1 {
						p.Code[i] = api.Instr{Op: api.Input, Dst: i + 1}
					}
				}
				in := api.Instr{Op: op}
				d, a, b, c, _ := isa.Operands(op)
				for i, field := range []*int{&in.A, &in.B, &in.C} {
					if []bool{a, b, c}[i] {
						*field = i + 1
						known = known && unknown>>i&1 == 0
					}
				}
				if d {
					in.Dst = 4
				}
				p.Code = append(p.Code, in)
				want := in
				switch {
				case op <= api.Select && known:
					want = api.Instr{Op: api.Const, Dst: 4, Imm: isa.Compute(op, n[0]*truth(a), n[1]*truth(b), n[2]*truth(c), 0)}
				case op == api.Select && unknown&1 == 0 && n[0] != 0:
					want = api.Instr{Op: api.Move, Dst: 4, A: 2}
				case op == api.Select && unknown&1 == 0:
					want = api.Instr{Op: api.Move, Dst: 4, A: 3}
				}
				if got := optimize.Fold(p); got.Code[3] != want || !slices.Equal(got.Code[:3], p.Code[:3]) {
					t.Errorf("Fold of %s is %s", listing(p), listing(got))
				}
			}
		}
	}
}

func truth(x bool) int {
	if x {
		return 1
	}
	return 0
}

func TestP24_2Propagate(t *testing.T) {
	for text, want := range map[string]string{
		"": "", "move r1 r0; add r2 r1 r1": "move r1 r0; add r2 r0 r0", "move r1 r0; move r2 r1; move r3 r2; output r3 0": "move r1 r0; move r2 r0; move r3 r0; output r0 0", "add r2 r1 r1; move r1 r0": "add r2 r1 r1; move r1 r0",
		// The origin or the copy is written again, also by an instruction that reads it.
		"move r1 r0; const r0 5; output r1 0": "move r1 r0; const r0 5; output r1 0", "move r1 r0; const r1 5; output r1 0": "move r1 r0; const r1 5; output r1 0", "move r1 r0; add r0 r1 r0; output r1 0": "move r1 r0; add r0 r0 r0; output r1 0", "move r1 r0; add r1 r1 r2; output r1 0": "move r1 r0; add r1 r0 r2; output r1 0", "move r1 r0; move r2 r1; const r1 5; output r2 0; output r1 1": "move r1 r0; move r2 r0; const r1 5; output r0 0; output r1 1", "move r1 r0; move r2 r1; const r0 5; output r2 0; output r1 1": "move r1 r0; move r2 r0; const r0 5; output r2 0; output r1 1", "move r1 r0; move r1 r2; output r1 0; const r0 1; output r1 1; const r2 1; output r1 2": "move r1 r0; move r1 r2; output r2 0; const r0 1; output r2 1; const r2 1; output r1 2", "move r1 r0; const r0 5; move r1 r0; output r1 0": "move r1 r0; const r0 5; move r1 r0; output r0 0", "move r1 r0; const r0 5; move r2 r0; output r1 0; output r2 1": "move r1 r0; const r0 5; move r2 r0; output r1 0; output r0 1",
		"move r1 r0; input r0 0; output r1 0": "move r1 r0; input r0 0; output r1 0", "move r1 r0; uniform r0 0; output r1 0": "move r1 r0; uniform r0 0; output r1 0", "move r1 r0; load r0 r1 1; output r1 0": "move r1 r0; load r0 r0 1; output r1 0",
		// Move to itself, and back.
		"move r0 r0; output r0 0": "move r0 r0; output r0 0", "move r1 r0; move r0 r1; output r1 0; output r0 1": "move r1 r0; move r0 r0; output r1 0; output r0 1", "move r1 r0; move r1 r1; output r1 0": "move r1 r0; move r1 r0; output r0 0", "move r1 r0; move r2 r0; move r0 r2; output r1 0; output r2 1": "move r1 r0; move r2 r0; move r0 r0; output r1 0; output r2 1", "move r1 r0; move r0 r0; output r1 0": "move r1 r0; move r0 r0; output r1 0",
		// All fields that are read, but not what is written.
		"move r1 r0; move r3 r2; move r5 r4; select r1 r1 r3 r5": "move r1 r0; move r3 r2; move r5 r4; select r1 r0 r2 r4", "move r1 r0; move r3 r2; move r5 r4; sample r3 r1 r3 r5 2; output r3 0; output r5 1": "move r1 r0; move r3 r2; move r5 r4; sample r3 r0 r2 r4 2; output r3 0; output r4 1", "move r2 r5; fetch r2 r2 r2 r2 0; output r2 0": "move r2 r5; fetch r2 r5 r5 r5 0; output r2 0", "move r1 r0; const r3 1; output r3 1; output r1 1": "move r1 r0; const r3 1; output r3 1; output r0 1", "move r0 r5; const r1 3; input r2 0; uniform r3 0; loop 2; end-loop": "move r0 r5; const r1 3; input r2 0; uniform r3 0; loop 2; end-loop", "move r1 r0; load r2 r1 0; floor r3 r1; less r4 r1 r3": "move r1 r0; load r2 r0 0; floor r3 r0; less r4 r0 r3",
		// Control instructions read the origin, and there are no copies behind them.
		"move r1 r0; if r1; output r1 0; end-if": "move r1 r0; if r0; output r1 0; end-if", "move r1 r0; if r2; move r3 r2; if r3; else; output r3 0; move r3 r2; output r3 1; end-if; output r3 0; move r3 r2; end-if; output r3 0": "move r1 r0; if r2; move r3 r2; if r2; else; output r3 0; move r3 r2; output r2 1; end-if; output r3 0; move r3 r2; end-if; output r3 0", "move r1 r0; loop 3; output r1 0; move r1 r0; break; output r1 0; move r1 r0; continue; output r1 0; move r1 r0; end-loop; output r1 0": "move r1 r0; loop 3; output r1 0; move r1 r0; break; output r1 0; move r1 r0; continue; output r1 0; move r1 r0; end-loop; output r1 0", "move r1 r0; emit; output r1 0; move r1 r0; cut; output r1 0": "move r1 r0; emit; output r1 0; move r1 r0; cut; output r1 0", "move r1 r0; discard; output r1 0; move r1 r0; output r1 0": "move r1 r0; discard; output r1 0; move r1 r0; output r0 0",
	} {
		checkPass(t, "Propagate", text, want)
	}
}

func TestP24_3RemoveDead(t *testing.T) {
	for text, want := range map[string]string{
		"": "", "const r0 1": "", "const r0 1; output r0 0": "const r0 1; output r0 0", "const r0 1; const r1 2; add r2 r0 r1": "", "const r0 1; const r1 2; add r2 r0 r1; output r1 0": "const r1 2; output r1 0", "input r0 0; uniform r1 0; sample r2 r3 r3 r3 0; fetch r4 r3 r3 r3 0; load r5 r3 0": "",
		// Instructions that are dead when others are removed, in both directions.
		"add r1 r0 r0; add r2 r1 r1; add r3 r2 r2; add r4 r3 r3": "", "add r3 r4 r4; add r2 r3 r3; add r1 r2 r2; add r0 r1 r1": "", "add r0 r1 r1; add r1 r2 r2; add r2 r3 r3": "", "loop 2; add r0 r1 r1; add r1 r2 r2; output r2 0; add r2 r3 r3; add r3 r2 r2; end-loop": "loop 2; output r2 0; add r2 r3 r3; add r3 r2 r2; end-loop", "const r0 1; move r1 r0; move r2 r1; output r0 0": "const r0 1; output r0 0",
		// Every instruction that writes a register that is read stays.
		"const r0 1; const r0 2; output r0 0": "const r0 1; const r0 2; output r0 0", "output r0 0; const r0 1": "output r0 0; const r0 1",
		// Moves to themselves, and instructions that read what they write or what the other one writes.
		"move r0 r0": "", "move r0 r0; output r0 0": "output r0 0", "const r0 1; move r0 r0": "", "add r0 r0 r1": "add r0 r0 r1", "const r1 1; const r2 2; add r0 r0 r1": "const r1 1; add r0 r0 r1", "add r0 r1 r1; add r1 r0 r0": "add r0 r1 r1; add r1 r0 r0", "add r0 r1 r1; move r1 r1": "", "select r0 r1 r2 r0": "select r0 r1 r2 r0",
		// Control instructions and Output stay.
		"const r0 1; if r0; const r1 2; else; const r2 3; end-if; loop 2; const r3 1; break; continue; end-loop": "const r0 1; if r0; else; end-if; loop 2; break; continue; end-loop", "emit; const r0 1; cut": "emit; cut", "discard; const r0 1": "discard", "output r1 0; output r1 0": "output r1 0; output r1 0",
		// Reading a register in any field keeps what writes it.
		"const r0 1; const r1 2; const r2 3; select r3 r0 r1 r2; output r3 0": "const r0 1; const r1 2; const r2 3; select r3 r0 r1 r2; output r3 0", "const r0 1; const r1 2; const r2 3; fetch r3 r0 r1 r2 0; output r3 0": "const r0 1; const r1 2; const r2 3; fetch r3 r0 r1 r2 0; output r3 0", "const r0 1; load r1 r0 0; if r1; end-if": "const r0 1; load r1 r0 0; if r1; end-if",
	} {
		checkPass(t, "RemoveDead", text, want)
	}
}

func TestP24_3Used(t *testing.T) {
	for text, want := range map[string][]int{
		"": nil, "const r0 1": nil, "move r1 r2": {2}, "add r1 r2 r3": {2, 3}, "select r1 r2 r3 r4": {2, 3, 4}, "output r5 1": {5}, "sample r1 r2 r3 r4 7": {2, 3, 4}, "fetch r1 r9 r9 r9 7": {9}, "load r1 r2 1": {2}, "if r6; end-if": {6}, "loop 7; end-loop": nil, "input r1 2; uniform r2 1": nil, "move r0 r0": {0}, "const r1 2; emit": nil, "negate r1 r0; if r1; else; output r3 1; end-if": {0, 1, 3},
	} {
		p := assemble(t, stageOf(text), text)
		bools := make([]bool, 10)
		for _, register := range want {
			bools[register] = true
		}
		if got := optimize.Used(p); !slices.Equal(got, bools) {
			t.Errorf("the registers that %s reads are %v", text, got)
		}
	}
	for op := api.Const; op <= api.Load; op++ {
		p := api.Program{Stage: 1, Registers: 5, Inputs: 1, Outputs: 1, Uniforms: 1, Textures: 1, Buffers: 1, Code: []api.Instr{{Op: op}}}
		d, a, b, c, _ := isa.Operands(op)
		in, want := &p.Code[0], []bool{false, a, b, c, false}
		for i, field := range []*int{&in.A, &in.B, &in.C, &in.Dst} {
			if []bool{a, b, c, d}[i] {
				*field = i + 1
			}
		}
		if got := optimize.Used(p); !slices.Equal(got, want) {
			t.Errorf("%s uses %v, want %v", isa.Name(op), got, want)
		}
	}
	if got := optimize.Used(api.Program{Stage: 1}); len(got) > 0 {
		t.Errorf("a program without registers uses %v", got)
	}
}

func TestP24_4Size(t *testing.T) {
	for text, want := range map[string][2]int{
		"": {0, 0}, "const r7 1": {1, 1}, "const r7 1; const r7 1": {2, 1}, "add r1 r2 r3": {1, 3}, "add r1 r1 r1": {1, 1}, "select r1 r2 r3 r4; select r4 r3 r2 r5": {2, 5}, "sample r9 r8 r7 r6 1; fetch r6 r7 r8 r9 0": {2, 4}, "output r3 1; if r4; end-if": {3, 2}, "loop 5; break; end-loop": {3, 0}, "emit; cut": {2, 0}, "discard": {1, 0}, "load r1 r2 1; input r3 1; uniform r4 1": {3, 4}, "move r9 r9": {1, 1},
	} {
		p := assemble(t, stageOf(text), text)
		if instructions, registers := optimize.Size(p); instructions != want[0] || registers != want[1] {
			t.Errorf("the size of %s is %d and %d, want %v", text, instructions, registers, want)
		}
	}
	for op := api.Const; op <= api.Load; op++ {
		p := api.Program{Stage: 1, Registers: 5, Inputs: 1, Outputs: 1, Uniforms: 1, Textures: 1, Buffers: 1, Code: []api.Instr{{Op: op}}}
		in, want := &p.Code[0], 0
		d, a, b, c, _ := isa.Operands(op)
		for i, field := range []*int{&in.A, &in.B, &in.C, &in.Dst} {
			if []bool{a, b, c, d}[i] {
				*field = i + 1
				want++
			}
		}
		if instructions, registers := optimize.Size(p); instructions != 1 || registers != want {
			t.Errorf("the size of %s is %d and %d", isa.Name(op), instructions, registers)
		}
	}
}

// selects returns a program in which each of count Selects is known in the round behind that of the one before it.
func selects(t *testing.T, count int) api.Program {
	p := assemble(t, 1, "const r0 1; input r1 0")
	p.Registers = 100
	for i := range count {
		choice := 0
		if i > 0 {
			choice = i + 1
		}
		p.Code = append(p.Code, api.Instr{Op: api.Select, Dst: i + 2, A: choice, B: 0, C: 1})
	}
	p.Code = append(p.Code, api.Instr{Op: api.Output, A: count + 1})
	return p
}

// rounds applies the passes count times, or until nothing changes, and returns how often this was.
func rounds(p api.Program, count int) (api.Program, int) {
	for i := range count {
		next := optimize.RemoveDead(optimize.Propagate(optimize.Fold(p)))
		if isa.Equal(next, p) {
			return p, i
		}
		p = next
	}
	return p, count
}

func TestP24_4Optimize(t *testing.T) {
	for text, want := range map[string]string{
		"": "", "const r0 2; const r1 3; mul-int r2 r0 r1; output r2 0": "const r2 6; output r2 0", "const r0 1; input r1 0; select r2 r0 r1 r0; output r2 1": "input r1 0; output r1 1", "input r0 0; move r1 r0; move r2 r1; add r3 r2 r1; output r3 0": "input r0 0; add r3 r0 r0; output r3 0", "const r0 1; if r0; const r1 2; end-if": "const r0 1; if r0; end-if", "input r0 0; input r1 1; output r0 0": "input r0 0; output r0 0",
		// One round makes the choice known, the next one the value.
		"const r0 1; input r1 0; select r2 r0 r0 r1; select r3 r2 r0 r1; not-bool r4 r3; output r4 0": "const r4 0; output r4 0",
	} {
		checkPass(t, "Optimize", text, want)
	}
	seen := map[int]bool{}
	for count := range 20 {
		p := selects(t, count)
		want, n := rounds(p, 8)
		all, more := rounds(p, 100)
		seen[more] = true
		if got := optimize.Optimize(p); !isa.Equal(got, want) {
			t.Errorf("behind %d rounds %s is %s, want %s", n, listing(p), listing(got), listing(want))
		}
		if count > 9 && isa.Equal(all, want) || count > 0 && count < 8 && !isa.Equal(all, want) {
			t.Errorf("the test is wrong: %d selects need %d rounds", count, more)
		}
	}
	if len(seen) < 15 {
		t.Errorf("the programs need only %v rounds", seen)
	}
}

func TestP24_4Invalid(t *testing.T) {
	for _, p := range wrongPrograms() {
		for name, pass := range passes() {
			code := slices.Clone(p.Code)
			got := pass(p)
			if !isa.Equal(got, p) || !slices.Equal(code, p.Code) {
				t.Errorf("%s changed a program with an error: %v", name, got)
			}
			clear(got.Code[:cap(got.Code)])
			if !slices.Equal(code, p.Code) {
				t.Errorf("%s of a program with an error shares memory with it", name)
			}
		}
		if got := optimize.Used(p); len(got) > 0 {
			t.Errorf("a program with an error uses %v", got)
		}
		if instructions, registers := optimize.Size(p); instructions != 0 || registers != 0 {
			t.Errorf("the size of a program with an error is %d and %d", instructions, registers)
		}
	}
}

// lastWrite returns the last instruction in front of an index that writes a register, or -1 if it is in front of a control instruction or does not exist.
func lastWrite(code []api.Instr, at, register int) int {
	for i := at - 1; i >= 0 && !isa.IsControl(code[i].Op); i-- {
		if d, _, _, _, _ := isa.Operands(code[i].Op); d && code[i].Dst == register {
			return i
		}
	}
	return -1
}

// expectedFold is a second reading of P24.1, which looks back for constants.
func expectedFold(code []api.Instr) []api.Instr {
	var after []api.Instr
	for at, in := range code {
		value := func(register int) (int, bool) {
			i := lastWrite(after, at, register)
			if i < 0 || after[i].Op != api.Const {
				return 0, false
			}
			return after[i].Imm, true
		}
		a, foundA := value(in.A)
		b, foundB := value(in.B)
		c, foundC := value(in.C)
		_, usesA, usesB, usesC, _ := isa.Operands(in.Op)
		switch {
		case in.Op > api.Select:
		case (foundA || !usesA) && (foundB || !usesB) && (foundC || !usesC):
			in = api.Instr{Op: api.Const, Dst: in.Dst, Imm: isa.Compute(in.Op, a, b, c, in.Imm)}
		case in.Op == api.Select && foundA && a != 0:
			in = api.Instr{Op: api.Move, Dst: in.Dst, A: in.B}
		case in.Op == api.Select && foundA:
			in = api.Instr{Op: api.Move, Dst: in.Dst, A: in.C}
		}
		after = append(after, in)
	}
	return after
}

// expectedPropagate is a second reading of P24.2, which looks back for copies.
func expectedPropagate(code []api.Instr) []api.Instr {
	var after []api.Instr
	for at, in := range code {
		_, usesA, usesB, usesC, _ := isa.Operands(in.Op)
		for i, field := range []*int{&in.A, &in.B, &in.C} {
			if ![]bool{usesA, usesB, usesC}[i] {
				continue
			}
			if w := lastWrite(after, at, *field); w >= 0 && after[w].Op == api.Move && after[w].A != *field && lastWrite(after, at, after[w].A) < w {
				*field = after[w].A
			}
		}
		after = append(after, in)
	}
	return after
}

// expectedRemoveDead is a second reading of P24.3, which removes one instruction after the other.
func expectedRemoveDead(code []api.Instr) []api.Instr {
	code = slices.Clone(code)
	for {
		i := slices.IndexFunc(code, func(in api.Instr) bool {
			d, _, _, _, _ := isa.Operands(in.Op)
			isRead := slices.ContainsFunc(code, func(other api.Instr) bool { return slices.Contains(isa.Uses(other), in.Dst) })
			return in.Op == api.Move && in.Dst == in.A || d && !isRead
		})
		if i < 0 {
			return code
		}
		code = slices.Delete(code, i, i+1)
	}
}

// TestP24_5Arbitrary compares the passes with their second readings and with the results of the programs, for arbitrary programs.
func TestP24_5Arbitrary(t *testing.T) {
	s := state(7)
	changed := map[string]int{}
	for range 2000 {
		p := s.program()
		code := slices.Clone(p.Code)
		want := map[string][]api.Instr{"Fold": expectedFold(code), "Propagate": expectedPropagate(code), "RemoveDead": expectedRemoveDead(code)}
		optimized := code
		for range 8 {
			optimized = expectedRemoveDead(expectedPropagate(expectedFold(optimized)))
		}
		want["Optimize"] = optimized
		for name, pass := range passes() {
			got := pass(p)
			if !slices.Equal(got.Code, want[name]) || !isa.Equal(header(got), header(p)) || !isa.Equal(got, pass(p)) {
				t.Fatalf("%s of %s is\n%s, want\n%s", name, listing(p), listing(got), listing(api.Program{Code: want[name]}))
			}
			checkResult(t, name, p, got, &s)
			if !slices.Equal(got.Code, code) {
				changed[name]++
			}
		}
		if !slices.Equal(code, p.Code) {
			t.Fatalf("a pass changed its argument: %s", listing(p))
		}
	}
	for name := range passes() {
		if changed[name] < 500 {
			t.Errorf("%s changed only %d programs", name, changed[name])
		}
	}
}

// TestP24_5Modules optimizes the programs of modules.
func TestP24_5Modules(t *testing.T) {
	s := state(8)
	for _, text := range []string{
		"uniform u: vec4; in i: vec4; out o: vec4; main { o = u * 2.0 + i; }", "in i: vec4; out o: vec4; fn f(a: fixed) -> fixed { let b: fixed = a; if (b < 1.0) { b = b + 5.0; } return b; } main { o = vec4(f(i.x), f(0.5), f(f(2.0)), 1.0 + 2.0 * 3.0); }", "in i: vec4; out o: int; main { loop 5 { o = o + int(i.x) * (2 + 3); if (o > 100) { break; } } }", "in i: vec4; out o: vec4; main { o[int(i.x) & 3] = i[2]; o[1] = o[0]; let a: vec4 = o; o = a; }", "struct S { a: vec4; b: int; } uniform s: S; out o: S; main { o = s; o.b = 3; o.a.y = s.a.x; let t: S = o; o = t; }",
	} {
		m, _, code := parser.Parse("shader vertex; " + text)
		p, errno := lower.Lower(m)
		if code != api.OK || errno != api.OK {
			t.Fatalf("the test is wrong: %s has error %d or %d", text, code, errno)
		}
		after := optimize.Optimize(p)
		checkResult(t, "Optimize", p, after, &s)
		if before, _ := optimize.Size(p); len(after.Code) >= before {
			t.Errorf("%s has %d instructions, and %d before", text, len(after.Code), before)
		}
	}
}

// TestP24_5Long has programs with as many instructions as there can be.
func TestP24_5Long(t *testing.T) {
	forward, backward := api.Program{Stage: 1, Registers: 8192}, api.Program{Stage: 1, Registers: 8192}
	copied := api.Program{Stage: 1, Registers: 8192, Outputs: 1}
	for i := range 8191 {
		forward.Code = append(forward.Code, api.Instr{Op: api.Negate, Dst: i + 1, A: i})
		backward.Code = append(backward.Code, api.Instr{Op: api.Negate, Dst: i, A: i + 1})
		copied.Code = append(copied.Code, api.Instr{Op: api.Move, Dst: i + 1, A: 0}, api.Instr{Op: api.Output, A: i})
	}
	forward.Code = append(forward.Code, forward.Code...)
	backward.Code = append(backward.Code, backward.Code...)
	for _, p := range []api.Program{forward, backward} {
		if got := optimize.RemoveDead(p); isa.Validate(p) != api.OK || len(got.Code) > 0 {
			t.Errorf("%d of %d dead instructions stay", len(got.Code), len(p.Code))
		}
	}
	if got := optimize.Optimize(copied); len(got.Code) != 8191 || got.Code[8190] != (api.Instr{Op: api.Output}) {
		t.Errorf("%d instructions stay", len(got.Code))
	}
}
