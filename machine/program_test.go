package machine_test

import (
	"math"
	"slices"
	"strconv"
	"strings"
	"testing"

	"frustum/api"
	"frustum/image"
	"frustum/isa"
	"frustum/mipmap"
)

const (
	one  = api.One
	low  = math.MinInt32
	high = math.MaxInt32
)

// stageOf returns a stage that has all instructions of a text.
func stageOf(text string) api.Stage {
	switch {
	case strings.Contains(text, "discard"):
		return api.FragmentStage
	case strings.Contains(text, "emit"), strings.Contains(text, "cut"):
		return api.GeometryStage
	}
	return api.VertexStage
}

// assemble returns a program with the instructions of a text, in which they are separated by ";". It has 10 registers, 3 inputs, and so on.
func assemble(t *testing.T, text string) api.Program {
	t.Helper()
	p := api.Program{Stage: stageOf(text), Registers: 10, Inputs: 3, Outputs: 4, Uniforms: 3, Textures: 2, Buffers: 2}
	for line := range strings.SplitSeq(text, ";") {
		words := strings.Fields(line)
		if len(words) == 0 {
			continue
		}
		in := api.Instr{}
		for op := api.Const; op <= api.Cut; op++ {
			if isa.Name(op) == words[0] {
				in.Op = op
			}
		}
		d, a, b, c, i := isa.Operands(in.Op)
		for k, field := range []*int{&in.Dst, &in.A, &in.B, &in.C, &in.Imm} {
			if []bool{d, a, b, c, i}[k] && len(words) > 1 {
				*field, _ = strconv.Atoi(strings.TrimPrefix(words[1], "r"))
				words = words[1:]
			}
		}
		p.Code = append(p.Code, in)
	}
	if code := isa.Validate(p); code != api.OK {
		t.Fatalf("the test is wrong: the program %s has error %d", text, code)
	}
	return p
}

// listing returns the instructions of a program in one line.
func listing(p api.Program) string {
	return strings.ReplaceAll(strings.TrimSuffix(isa.Format(p), "\n"), "\n", "; ")
}

// state makes arbitrary numbers.
type state uint64

func (s *state) next(beyond int) int {
	*s = *s*6364136223846793005 + 1442695040888963407
	return int(*s>>33) % beyond
}

// number returns one of the numbers at which operations change, or an arbitrary one.
func (s *state) number() int {
	list := []int{0, 0, 0, 1, 2, 3, 7, 31, 32, one / 2, one - 1, one, one + 1, 2 * one, 2049 * one, api.MaxValue, api.MaxValue + 1, high, 1 << 31, 1 << 32, 1<<40 + 3, math.MaxInt, math.MinInt}
	n := list[s.next(len(list))]
	switch s.next(4) {
	case 0:
		return -n
	case 1:
		return s.next(1<<31)>>s.next(31) - s.next(1<<31)>>s.next(31)
	}
	return n
}

func (s *state) numbers(count int) []int {
	list := make([]int, count)
	for i := range list {
		list[i] = s.number()
	}
	return list
}

// lists returns lists of inputs, some of them shorter than others.
func (s *state) lists(count int) [][]int {
	lists := make([][]int, count)
	for i := range lists {
		lists[i] = s.numbers(s.next(10))
	}
	return lists
}

// mask returns an arbitrary mask, often the full one.
func (s *state) mask() uint16 {
	if s.next(2) == 0 {
		return 0xffff
	}
	return uint16(s.next(1 << 16))
}

// instruction returns an arbitrary instruction that is no control instruction, often one that reads an input.
func (s *state) instruction(p api.Program) api.Instr {
	for {
		in := api.Instr{Op: api.Opcode(1 + s.next(42))}
		if s.next(3) == 0 {
			in.Op = []api.Opcode{api.Const, api.Input, api.Input, api.AddInt, api.Output}[s.next(5)]
		}
		d, a, b, c, i := isa.Operands(in.Op)
		for k, field := range []*int{&in.Dst, &in.A, &in.B, &in.C} {
			if []bool{d, a, b, c}[k] {
				*field = s.next(p.Registers)
			}
		}
		inputs := p.Inputs
		if p.Stage == api.FragmentStage {
			inputs *= 3
		}
		limit := map[api.Opcode]int{api.Input: inputs, api.Uniform: p.Uniforms, api.Output: p.Outputs, api.Sample: 4 * p.Textures, api.Fetch: 4 * p.Textures, api.Load: p.Buffers}[in.Op]
		switch {
		case in.Op == api.Const:
			in.Imm = int(int32(s.number()))
		case i && limit == 0:
			continue
		case i:
			in.Imm = s.next(limit)
		}
		return in
	}
}

// block returns an arbitrary list of instructions in which all constructs are closed.
func (s *state) block(p api.Program, depth, loops int) []api.Instr {
	var code []api.Instr
	for range s.next(8) {
		switch choice := s.next(16); {
		case choice < 3 && depth > 0:
			code = append(append(code, api.Instr{Op: api.If, A: s.next(p.Registers)}), s.block(p, depth-1, loops)...)
			if s.next(2) == 0 {
				code = append(append(code, api.Instr{Op: api.Else}), s.block(p, depth-1, loops)...)
			}
			code = append(code, api.Instr{Op: api.EndIf})
		case choice == 3 && depth > 0 && loops < 3:
			code = append(append(code, api.Instr{Op: api.Loop, Imm: 1 + s.next(4)}), s.block(p, depth-1, loops+1)...)
			code = append(code, api.Instr{Op: api.EndLoop})
		case choice == 4 && loops > 0:
			code = append(code, api.Instr{Op: []api.Opcode{api.Break, api.Continue}[s.next(2)]})
		case choice == 5 && p.Stage == api.FragmentStage && s.next(4) == 0:
			code = append(code, api.Instr{Op: api.Discard})
		case choice < 7 && p.Stage == api.GeometryStage:
			code = append(code, api.Instr{Op: []api.Opcode{api.Emit, api.Cut}[s.next(2)]})
		default:
			code = append(code, s.instruction(p))
		}
	}
	return code
}

// program returns an arbitrary valid program.
func (s *state) program() api.Program {
	p := api.Program{Stage: api.Stage(1 + s.next(3)), Registers: 1 + s.next(8), Inputs: s.next(4), Outputs: 1 + s.next(3), Uniforms: s.next(4), Textures: s.next(3), Buffers: s.next(3)}
	for i := range p.Registers {
		if p.Inputs > 0 {
			p.Code = append(p.Code, api.Instr{Op: api.Input, Dst: i, Imm: s.next(p.Inputs)})
		}
	}
	for range 4 {
		p.Code = append(p.Code, s.block(p, 4, 0)...)
	}
	for i := range s.next(p.Outputs + 1) {
		p.Code = append(p.Code, api.Instr{Op: api.Output, A: s.next(p.Registers), Imm: i})
	}
	return p
}

// resources returns textures, samplers and buffers, of which some do not belong together.
func resources() api.Bindings {
	picture := func(f api.TexelFormat, width, height int) api.Texture {
		m, _ := image.New(f, width, height)
		for i := range m.Data {
			m.Data[i] = byte(37*i + 11)
		}
		texture, _ := mipmap.Chain(m)
		return texture
	}
	smooth := api.Sampler{AddressU: api.Repeat, AddressV: api.Mirror, Magnify: api.Linear, Minify: api.Nearest, Mipmap: api.Linear, MaxLOD: 8 * one}
	return api.Bindings{
		Textures: []api.Texture{picture(api.RGBA8, 4, 2), picture(api.RGBA16F, 3, 3)},
		Samplers: []api.Sampler{smooth},
		Buffers:  [][]byte{{1, 0, 0, 0, 255, 255, 255, 255, 9}, {0, 0, 0, 128}},
		Uniforms: []int{5, 1 << 31, -6},
	}
}

// bindings returns resources for arbitrary programs.
func (s *state) bindings() api.Bindings {
	b := resources()
	b.Uniforms = s.numbers(s.next(4))
	return b
}

// wrongPrograms returns programs that isa.Validate rejects.
func wrongPrograms() []api.Program {
	with := func(code ...api.Instr) api.Program {
		return api.Program{Stage: 1, Registers: 2, Outputs: 1, Code: code}
	}
	constant, move := api.Instr{Op: api.Const, Dst: 1, Imm: 5}, api.Instr{Op: api.Move, Dst: 0, A: 1}
	return []api.Program{
		{}, {Stage: 4}, {Stage: -1}, {Stage: 1, Registers: -1}, {Stage: 1, Registers: 8193}, {Stage: 1, Registers: math.MaxInt}, {Stage: 1, Outputs: 33}, {Stage: 1, Inputs: math.MinInt}, {Stage: 1, Uniforms: 65}, {Stage: 1, Textures: 5}, {Stage: 1, Buffers: -1},
		with(constant, api.Instr{}), with(constant, api.Instr{Op: 53}), with(api.Instr{Op: api.Move, A: 2}), with(api.Instr{Op: api.Move, Dst: math.MaxInt, A: 1}), with(api.Instr{Op: api.Move, A: -1}), with(constant, move, api.Instr{Op: api.Output, A: 1, Imm: 1}), with(api.Instr{Op: api.Input}), with(api.Instr{Op: api.Load}),
		with(move, api.Instr{Op: api.If, A: 1}), with(move, api.Instr{Op: api.EndIf}), with(api.Instr{Op: api.Else}), with(api.Instr{Op: api.EndLoop}), with(api.Instr{Op: api.Loop, Imm: 2}), with(api.Instr{Op: api.Loop}, api.Instr{Op: api.EndLoop}), with(api.Instr{Op: api.Loop, Imm: 17}, api.Instr{Op: api.EndLoop}), with(api.Instr{Op: api.Break}), with(api.Instr{Op: api.Discard}), with(api.Instr{Op: api.Emit}), with(api.Instr{Op: api.Move, A: 1, B: 1}), with(slices.Repeat([]api.Instr{move}, 16385)...),
	}
}
