package machine_test

import (
	"math"
	"slices"
	"testing"

	"frustum/api"
	"frustum/lower"
	"frustum/machine"
	"frustum/mask"
)

func equal(a, b api.LaneResult) bool {
	return slices.Equal(a.Outputs, b.Outputs) && a.Discarded == b.Discarded && slices.EqualFunc(a.Emitted, b.Emitted, slices.Equal) && slices.Equal(a.Cuts, b.Cuts)
}

// expected returns the result of each lane, executed alone.
func expected(p api.Program, b api.Bindings, inputs [][]int, active uint16) []api.LaneResult {
	results := make([]api.LaneResult, 16)
	for lane := range results {
		if active>>lane%2 == 1 {
			var own []int
			if lane < len(inputs) {
				own = inputs[lane]
			}
			results[lane], _ = lower.LaneOf(p, b, own)
		}
	}
	return results
}

// checkRun compares the lanes of a program with each lane alone.
func checkRun(t *testing.T, p api.Program, b api.Bindings, inputs [][]int, active uint16) []api.LaneResult {
	t.Helper()
	code, uniforms := slices.Clone(p.Code), slices.Clone(b.Uniforms)
	var before [][]int
	for _, list := range inputs {
		before = append(before, slices.Clone(list))
	}
	want := expected(p, b, inputs, active)
	got, errno := machine.Run(p, b, inputs, active)
	if errno != api.OK || !slices.EqualFunc(got, want, equal) {
		t.Fatalf("the results of %s for %v and %s are %v, error %d, want %v", listing(p), inputs, mask.Text(active), got, errno, want)
	}
	if !slices.Equal(code, p.Code) || !slices.Equal(uniforms, b.Uniforms) || !slices.EqualFunc(before, inputs, slices.Equal) {
		t.Fatalf("Run of %s changed its arguments", listing(p))
	}
	return got
}

func TestP26_1Example(t *testing.T) {
	p := assemble(t, "input r0 0; if r0; const r1 7; else; const r1 9; end-if; output r1 1")
	got, code := machine.Run(p, api.Bindings{}, [][]int{{5}, {0}, {5}, {}, nil}, 0b111110101011)
	for lane, result := range got {
		switch {
		case lane == 0:
			if !equal(result, api.LaneResult{Outputs: []int{0, 7, 0, 0}}) {
				t.Errorf("the result of lane 0 is %v", result)
			}
		case slices.Contains([]int{1, 3, 5, 7, 8, 9, 10, 11}, lane):
			if !equal(result, api.LaneResult{Outputs: []int{0, 9, 0, 0}}) {
				t.Errorf("the result of lane %d is %v", lane, result)
			}
		default:
			if !equal(result, api.LaneResult{}) {
				t.Errorf("the result of lane %d, which is not active, is %v", lane, result)
			}
		}
	}
	if code != api.OK || len(got) != 16 {
		t.Errorf("there are %d results, error %d", len(got), code)
	}
	issues, code := machine.Trace(p, api.Bindings{}, [][]int{{5}, {0}}, 3, 3)
	if want := []api.Issue{{PC: 0, Mask: 3}, {PC: 1, Mask: 3}, {PC: 2, Mask: 1}}; code != api.OK || !slices.Equal(issues, want) {
		t.Errorf("the issues are %v, error %d, want %v", issues, code, want)
	}
}

// TestP26_1Run has programs with each kind of instruction.
func TestP26_1Run(t *testing.T) {
	inputs := [][]int{{0, 0, 0}, {1, 0, 0}, {0, 1, 0}, {1, 1, 0}, {0, 0, 1}, {1, 0, 1}, {0, 1, 1}, {1, 1, 1}, {1 << 32, 1 << 31, -1}, {math.MaxInt, math.MinInt, 1<<40 + 3}, {2, 3}, {3}, {}, nil, {4, 5, 6, 7, 8, 9, 10}, {-1, -2, -3}, {1, 1, 1}, {9, 9, 9}}
	b := resources()
	for _, text := range []string{
		"", "output r0 0", "const r0 5; output r0 0; const r0 -2147483648; output r0 3", "input r0 0; input r1 1; input r2 2; output r0 0; output r1 1; output r2 2", "uniform r0 0; uniform r1 1; uniform r2 2; output r0 0; output r1 1; output r2 2",
		"input r0 0; input r1 1; input r2 2; select r3 r0 r1 r2; output r3 0; mul-int r3 r0 r1; output r3 1; less r3 r0 r1; output r3 2; not-bool r3 r2; output r3 3",
		"input r0 0; const r2 1; load r1 r0 0; output r1 0; load r1 r0 1; output r1 1; load r1 r2 0; output r1 2", "input r0 0; input r1 1; input r2 2; fetch r3 r0 r1 r2 0; output r3 0; fetch r3 r0 r1 r2 7; output r3 1; fetch r3 r0 r1 r9 2; output r3 2; fetch r3 r1 r0 r9 5; output r3 3",
		"input r0 0; const r1 20000; mul-int r0 r0 r1; input r2 1; mul-int r2 r2 r1; sample r3 r0 r2 r9 0; output r3 0; sample r3 r0 r2 r1 1; output r3 1; sample r3 r0 r2 r9 3; output r3 2; sample r3 r0 r2 r9 4; output r3 3",
		"input r0 0; if r0; output r0 0; else; const r1 5; output r1 0; end-if; output r1 1", "input r0 0; const r1 1; loop 16; add-int r2 r2 r1; less r3 r0 r2; if r3; break; end-if; output r2 0; end-loop; output r2 1",
		"input r0 0; input r1 1; const r2 1; loop 5; add-int r3 r3 r2; if r0; continue; end-if; add-int r4 r4 r2; loop 3; if r1; break; end-if; add-int r5 r5 r2; end-loop; end-loop; output r3 0; output r4 1; output r5 2",
		"input r0 0; output r0 0; if r0; discard; end-if; const r1 5; output r1 0; output r1 1", "discard", "input r0 0; loop 4; if r0; discard; end-if; output r0 1; input r0 1; end-loop; output r0 2",
		"input r0 0; output r0 0; emit; if r0; emit; cut; else; cut; cut; end-if; input r1 1; output r1 0; emit", "input r0 0; loop 16; if r0; emit; end-if; cut; emit; end-loop; cut", "cut; emit; cut; cut", "input r0 0; const r1 1; loop 15; output r2 0; emit; add-int r2 r2 r1; if r0; cut; end-if; end-loop",
	} {
		for _, active := range []uint16{0xffff, 0, 1, 0x8000, 0x5555, 0xaaaa, 0x7fff, 0xfffe, 0x0180} {
			p := assemble(t, text)
			for _, bound := range []api.Bindings{b, {}, {Textures: b.Textures[1:], Buffers: b.Buffers[1:], Uniforms: b.Uniforms[:2]}, {Textures: b.Textures, Samplers: make([]api.Sampler, 5), Buffers: make([][]byte, 3), Uniforms: make([]int, 70)}} {
				for _, count := range []int{0, 1, 15, 16, 18} {
					checkRun(t, p, bound, inputs[:count], active)
				}
			}
		}
	}
	// Programs without registers, inputs and outputs.
	checkRun(t, api.Program{Stage: 2, Code: []api.Instr{{Op: api.Emit}, {Op: api.Cut}, {Op: api.Loop, Imm: 16}, {Op: api.Emit}, {Op: api.EndLoop}}}, api.Bindings{}, nil, 0xffff)
}

// TestP26_1Large has programs at the limits of the instruction set.
func TestP26_1Large(t *testing.T) {
	p := api.Program{Stage: 1, Registers: 8192, Inputs: 32, Outputs: 32, Uniforms: 64}
	p.Code = append(p.Code, api.Instr{Op: api.Input, Dst: 8191, Imm: 31}, api.Instr{Op: api.Uniform, Dst: 8190, Imm: 63})
	for i := 8190; i > 0; i-- {
		p.Code = append(p.Code, api.Instr{Op: api.Sub, Dst: i - 1, A: i, B: i + 1})
	}
	p.Code = append(p.Code, api.Instr{Op: api.Output, A: 0, Imm: 31}, api.Instr{Op: api.Output, A: 5, Imm: 0})
	s := state(9)
	inputs := make([][]int, 16)
	for i := range inputs {
		inputs[i] = s.numbers(32)
	}
	checkRun(t, p, api.Bindings{Uniforms: s.numbers(64)}, inputs, 0xffff)
	// As many iterations as there can be, and as many open constructs.
	deep := assemble(t, "input r0 0; const r1 1; loop 16; loop 16; loop 16; add-int r2 r2 r1; end-loop; end-loop; end-loop; output r2 0")
	for range 4000 {
		deep.Code = append(deep.Code, api.Instr{Op: api.If, A: len(deep.Code) % 3})
	}
	deep.Code = append(deep.Code, api.Instr{Op: api.Output, A: 1, Imm: 1})
	for range 4000 {
		deep.Code = append(deep.Code, api.Instr{Op: api.EndIf})
	}
	for _, result := range checkRun(t, deep, api.Bindings{}, inputs, 0xffff) {
		if result.Outputs[0] != 4096 {
			t.Errorf("%d iterations were executed", result.Outputs[0])
		}
	}
}

func TestP26_1Invalid(t *testing.T) {
	for _, p := range wrongPrograms() {
		for _, inputs := range [][][]int{nil, {}, {{1, 2}, {3}}, make([][]int, 1100)} {
			for _, active := range []uint16{0, 1, 0xffff} {
				if got, code := machine.Run(p, resources(), inputs, active); code != api.ErrShader || got != nil {
					t.Errorf("a program with an error has the results %v, error %d", got, code)
				}
			}
			if got, code := machine.Batch(p, resources(), inputs); code != api.ErrShader || got != nil {
				t.Errorf("a program with an error has the results %v, error %d", got, code)
			}
		}
	}
}

// TestP26_3Batch has numbers of lists at each multiple of 16 and at the limit.
func TestP26_3Batch(t *testing.T) {
	p := assemble(t, "input r0 0; input r1 1; if r0; output r1 0; else; discard; end-if; const r2 1; loop 5; less r3 r2 r0; if r3; break; end-if; add-int r2 r2 r0; end-loop; output r2 2")
	s := state(7)
	inputs := make([][]int, 2000)
	for i := range inputs {
		inputs[i] = []int{i % 5, 1000 + i}
		if i%7 == 0 {
			inputs[i] = s.numbers(s.next(4))
		}
	}
	for _, count := range []int{0, 1, 2, 15, 16, 17, 31, 32, 33, 48, 1008, 1023, 1024, 1025, 1040, 2000} {
		before := slices.Clone(inputs)
		got, code := machine.Batch(p, resources(), inputs[:count])
		if code != api.OK || len(got) != min(count, 1024) {
			t.Fatalf("for %d lists there are %d results, error %d", count, len(got), code)
		}
		for i, result := range got {
			if want, _ := lower.LaneOf(p, resources(), inputs[i]); !equal(result, want) {
				t.Fatalf("result %d of %d is %v, want %v", i, count, result, want)
			}
		}
		if !slices.EqualFunc(before, inputs, slices.Equal) {
			t.Fatal("Batch changed its inputs")
		}
	}
	for _, lists := range [][][]int{nil, {}} {
		if got, code := machine.Batch(p, api.Bindings{}, lists); code != api.OK || len(got) > 0 {
			t.Errorf("without lists there are %d results, error %d", len(got), code)
		}
	}
	if got, code := machine.Batch(api.Program{Stage: 1, Outputs: 1}, api.Bindings{}, [][]int{nil, {}}); code != api.OK || len(got) != 2 || !equal(got[1], api.LaneResult{Outputs: []int{0}}) {
		t.Errorf("an empty program has the results %v, error %d", got, code)
	}
}

func TestP26_3Divergence(t *testing.T) {
	for _, c := range []struct {
		masks []uint16
		want  int
	}{
		{nil, 0}, {[]uint16{}, 0}, {[]uint16{3}, 0}, {[]uint16{0}, 0}, {[]uint16{3, 3, 3}, 0}, {[]uint16{3, 1, 0, 2, 3}, 2}, {[]uint16{0, 1, 0, 1}, 2}, {[]uint16{1, 3, 0xffff, 0x8001, 1, 0}, 3}, {[]uint16{0xffff, 0x7fff, 0xfffe, 0xffff}, 2}, {[]uint16{0, 0, 0}, 0}, {[]uint16{5, 5, 4, 4, 4}, 3},
	} {
		var issues []api.Issue
		for i, m := range c.masks {
			issues = append(issues, api.Issue{PC: 99 - i, Mask: m})
		}
		before := slices.Clone(issues)
		if got := machine.Divergence(issues); got != c.want || !slices.Equal(before, issues) {
			t.Errorf("of the masks %v, %d diverge, want %d", c.masks, got, c.want)
		}
	}
	long := slices.Repeat([]api.Issue{{Mask: 1}, {Mask: 2}}, 5000)
	if got := machine.Divergence(long); got != 5000 {
		t.Errorf("of 10000 issues %d diverge", got)
	}
}

// TestP26_4Arbitrary compares the lanes of arbitrary programs with each lane alone, and with the same lane next to others.
func TestP26_4Arbitrary(t *testing.T) {
	s := state(3)
	different, stopped := 0, 0
	for range 3000 {
		p, b, inputs, active := s.program(), s.bindings(), s.lists(s.next(20)), s.mask()
		got := checkRun(t, p, b, inputs, active)
		others := s.lists(16)
		lane := s.next(16)
		if lane < len(inputs) {
			others[lane] = inputs[lane]
		} else {
			others[lane] = nil
		}
		again, code := machine.Run(p, b, others, s.mask()|1<<lane)
		if want, _ := lower.LaneOf(p, b, others[lane]); code != api.OK || !equal(again[lane], want) {
			t.Fatalf("lane %d of %s is %v next to other lanes, error %d, want %v", lane, listing(p), again[lane], code, want)
		}
		for _, result := range got {
			if active>>lane%2 == 1 && result.Outputs != nil && !equal(result, got[lane]) {
				different++
			}
			if result.Discarded || len(result.Emitted) > 0 {
				stopped++
			}
		}
	}
	if different < 3000 || stopped < 2000 {
		t.Errorf("only %d lanes differ, and %d events were seen", different, stopped)
	}
}

// spoil overwrites all the memory of a result.
func spoil(r api.LaneResult) {
	for _, list := range append(slices.Clone(r.Emitted), r.Outputs, r.Cuts) {
		list = list[:cap(list)]
		for i := range list {
			list[i] = -77
		}
	}
}

// TestP26_1Memory changes results, which share no memory.
func TestP26_1Memory(t *testing.T) {
	p := assemble(t, "input r0 0; output r0 0; emit; cut; const r1 4; output r1 0; emit; cut; output r0 2")
	inputs := [][]int{{1}, {2}, {3}, {4}, {5}}
	want := expected(p, api.Bindings{}, inputs, 0xffff)
	first, _ := machine.Run(p, api.Bindings{}, inputs, 0xffff)
	batch, _ := machine.Batch(p, api.Bindings{}, inputs)
	for i, r := range first {
		if !equal(r, want[i]) {
			t.Errorf("result %d shares memory with an earlier one: %v, want %v", i, r, want[i])
		}
		spoil(r)
	}
	for i, r := range batch {
		if !equal(r, want[i]) {
			t.Errorf("result %d of the batch shares memory with an earlier one: %v, want %v", i, r, want[i])
		}
		emitted := slices.Clone(r.Emitted)
		for k := range emitted {
			clear(emitted[k])
			if k == 0 && !slices.Equal(emitted[1], want[i].Emitted[1]) {
				t.Errorf("the vertices of result %d share memory", i)
			}
		}
		if !slices.Equal(r.Outputs, want[i].Outputs) {
			t.Errorf("the vertices of result %d share memory with the outputs", i)
		}
		spoil(r)
	}
	if again, _ := machine.Run(p, api.Bindings{}, inputs, 0xffff); !slices.EqualFunc(again, want, equal) {
		t.Error("results of Run share memory")
	}
	one, _ := machine.Trace(p, api.Bindings{}, inputs, 3, 5)
	clear(one[:cap(one)])
	if two, _ := machine.Trace(p, api.Bindings{}, inputs, 3, 5); two[1] != (api.Issue{PC: 1, Mask: 3}) {
		t.Error("results of Trace share memory")
	}
}
