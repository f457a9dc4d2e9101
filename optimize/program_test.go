package optimize_test

import (
	"math"
	"slices"
	"strconv"
	"strings"
	"testing"

	"frustum/api"
	"frustum/image"
	"frustum/isa"
	"frustum/lower"
	"frustum/mipmap"
)

const (
	one      = api.One
	maxValue = api.MaxValue
	low      = math.MinInt32
	high     = math.MaxInt32
)

// assemble returns a program with the instructions of a text, in which they are separated by ";". It has 10 registers, 3 inputs, and so on.
func assemble(t *testing.T, stage api.Stage, text string) api.Program {
	t.Helper()
	p := api.Program{Stage: stage, Registers: 10, Inputs: 3, Outputs: 4, Uniforms: 3, Textures: 2, Buffers: 2}
	for line := range strings.SplitSeq(text, ";") {
		words := strings.Fields(line)
		if len(words) == 0 {
			continue
		}
		in := api.Instr{}
		for op := api.Const; op <= api.Cut; op++ {
			if isa.Name(op) == words[0] {
				in.Op = op
			}
		}
		d, a, b, c, i := isa.Operands(in.Op)
		for k, field := range []*int{&in.Dst, &in.A, &in.B, &in.C, &in.Imm} {
			if []bool{d, a, b, c, i}[k] && len(words) > 1 {
				*field, _ = strconv.Atoi(strings.TrimPrefix(words[1], "r"))
				words = words[1:]
			}
		}
		p.Code = append(p.Code, in)
	}
	if code := isa.Validate(p); code != api.OK {
		t.Fatalf("the test is wrong: the program %s has error %d", text, code)
	}
	return p
}

// listing returns the instructions of a program in one line.
func listing(p api.Program) string {
	return strings.ReplaceAll(strings.TrimSuffix(isa.Format(p), "\n"), "\n", "; ")
}

// state makes arbitrary numbers.
type state uint64

func (s *state) next(beyond int) int {
	*s = *s*6364136223846793005 + 1442695040888963407
	return int(*s>>33) % beyond
}

// number returns one of the numbers at which operations change, or an arbitrary one.
func (s *state) number() int {
	list := []int{0, 1, 2, 3, 7, 31, 32, one / 2, one - 1, one, one + 1, 2 * one, 2049 * one, maxValue, maxValue + 1, high, 1 << 31, 1 << 32, 1<<40 + 3, math.MaxInt, math.MinInt}
	n := list[s.next(len(list))]
	switch s.next(4) {
	case 0:
		return -n
	case 1:
		return s.next(1<<31)>>s.next(31) - s.next(1<<31)>>s.next(31)
	}
	return n
}

func (s *state) numbers(count int) []int {
	list := make([]int, count)
	for i := range list {
		list[i] = s.number()
	}
	return list
}

// instruction returns an arbitrary instruction that is no control instruction, often a Const or a Move.
func (s *state) instruction(p api.Program) api.Instr {
	for {
		in := api.Instr{Op: api.Opcode(1 + s.next(42))}
		if s.next(2) == 0 {
			in.Op = []api.Opcode{api.Const, api.Move, api.Move, api.Select, api.Output}[s.next(5)]
		}
		d, a, b, c, i := isa.Operands(in.Op)
		for k, field := range []*int{&in.Dst, &in.A, &in.B, &in.C} {
			if []bool{d, a, b, c}[k] {
				*field = s.next(p.Registers)
			}
		}
		limit := map[api.Opcode]int{api.Input: p.Inputs, api.Uniform: p.Uniforms, api.Output: p.Outputs, api.Sample: 4 * p.Textures, api.Fetch: 4 * p.Textures, api.Load: p.Buffers}[in.Op]
		switch {
		case in.Op == api.Const:
			in.Imm = int(int32(s.number()))
		case i && limit == 0:
			continue
		case i:
			in.Imm = s.next(limit)
		}
		return in
	}
}

// block returns an arbitrary list of instructions in which all constructs are closed.
func (s *state) block(p api.Program, depth, loops int) []api.Instr {
	var code []api.Instr
	for range s.next(8) {
		switch choice := s.next(16); {
		case choice < 2 && depth > 0:
			code = append(append(code, api.Instr{Op: api.If, A: s.next(p.Registers)}), s.block(p, depth-1, loops)...)
			if s.next(2) == 0 {
				code = append(append(code, api.Instr{Op: api.Else}), s.block(p, depth-1, loops)...)
			}
			code = append(code, api.Instr{Op: api.EndIf})
		case choice == 2 && depth > 0 && loops < 3:
			code = append(append(code, api.Instr{Op: api.Loop, Imm: 1 + s.next(4)}), s.block(p, depth-1, loops+1)...)
			code = append(code, api.Instr{Op: api.EndLoop})
		case choice == 3 && loops > 0:
			code = append(code, api.Instr{Op: []api.Opcode{api.Break, api.Continue}[s.next(2)]})
		case choice == 4 && p.Stage == api.FragmentStage && s.next(4) == 0:
			code = append(code, api.Instr{Op: api.Discard})
		case choice < 6 && p.Stage == api.GeometryStage:
			code = append(code, api.Instr{Op: []api.Opcode{api.Emit, api.Cut}[s.next(2)]})
		default:
			code = append(code, s.instruction(p))
		}
	}
	return code
}

// program returns an arbitrary valid program.
func (s *state) program() api.Program {
	p := api.Program{Stage: api.Stage(1 + s.next(3)), Registers: 1 + s.next(8), Inputs: s.next(4), Outputs: 1 + s.next(3), Uniforms: s.next(4), Textures: s.next(3), Buffers: s.next(3)}
	for range 4 {
		p.Code = append(p.Code, s.block(p, 4, 0)...)
	}
	for i := range s.next(p.Outputs + 1) {
		p.Code = append(p.Code, api.Instr{Op: api.Output, A: s.next(p.Registers), Imm: i})
	}
	return p
}

// bindings returns resources for arbitrary programs.
func (s *state) bindings() api.Bindings {
	m, _ := image.New(api.RGBA8, 2, 2)
	for i := range m.Data {
		m.Data[i] = byte(37*i + 11)
	}
	texture, _ := mipmap.Chain(m)
	smooth := api.Sampler{AddressU: api.Repeat, AddressV: api.Mirror, Magnify: api.Linear, Minify: api.Nearest, Mipmap: api.Linear, MaxLOD: 8 * one}
	return api.Bindings{Textures: []api.Texture{texture, texture}, Samplers: []api.Sampler{smooth}, Buffers: [][]byte{{1, 0, 0, 0, 255, 255, 255, 255}}, Uniforms: s.numbers(s.next(4))}
}

// wrongPrograms returns programs that isa.Validate rejects.
func wrongPrograms() []api.Program {
	with := func(code ...api.Instr) api.Program {
		return api.Program{Stage: 1, Registers: 2, Outputs: 1, Code: code}
	}
	constant, dead := api.Instr{Op: api.Const, Dst: 1, Imm: 5}, api.Instr{Op: api.Move, Dst: 0, A: 1}
	return []api.Program{{}, {Stage: 4, Registers: 2, Code: []api.Instr{constant, dead, dead}}, {Stage: 1, Registers: -1, Code: []api.Instr{constant, dead}}, {Stage: 1, Registers: 8193, Code: []api.Instr{constant, dead}}, {Stage: 1, Registers: math.MaxInt}, with(constant, dead, api.Instr{}), with(constant, dead, api.Instr{Op: 53}), with(constant, dead, api.Instr{Op: api.Move, A: 2}), with(constant, api.Instr{Op: api.Move, Dst: math.MaxInt, A: 1}), with(constant, api.Instr{Op: api.Move, A: -1}), with(constant, dead, api.Instr{Op: api.If, A: 1}), with(constant, dead, api.Instr{Op: api.EndIf}), with(constant, dead, api.Instr{Op: api.Move, A: 1, B: 1}), with(slices.Repeat([]api.Instr{dead}, 16385)...)}
}

func equal(a, b api.LaneResult) bool {
	return slices.Equal(a.Outputs, b.Outputs) && a.Discarded == b.Discarded && slices.EqualFunc(a.Emitted, b.Emitted, slices.Equal) && slices.Equal(a.Cuts, b.Cuts)
}

// checkResult compares the results of a program before and after a pass, for some bindings and inputs.
func checkResult(t *testing.T, what string, p, after api.Program, s *state) {
	t.Helper()
	if code := isa.Validate(after); code != api.OK || len(after.Code) > len(p.Code) {
		t.Errorf("behind %s the program has error %d and %d instructions: %s", what, code, len(after.Code), listing(p))
	}
	for range 3 {
		b, inputs := s.bindings(), s.numbers(s.next(7))
		want, _ := lower.LaneOf(p, b, inputs)
		if got, code := lower.LaneOf(after, b, inputs); code != api.OK || !equal(got, want) {
			t.Errorf("behind %s the result is %v, error %d, want %v: %s", what, got, code, want, listing(p))
		}
	}
}

// header returns a program without its instructions.
func header(p api.Program) api.Program {
	p.Code = nil
	return p
}
