package lower_test

import (
	"math"
	"slices"
	"testing"

	"frustum/api"
	"frustum/image"
	"frustum/interpreter"
	"frustum/isa"
	"frustum/lower"
	"frustum/mipmap"
)

const (
	one      = api.One
	maxValue = api.MaxValue
	low      = math.MinInt32
	high     = math.MaxInt32
)

// state makes arbitrary numbers.
type state uint64

func (s *state) next(beyond int) int {
	*s = *s*6364136223846793005 + 1442695040888963407
	return int(*s>>33) % beyond
}

// number returns one of the numbers at which operations change, or an arbitrary one.
func (s *state) number() int {
	list := []int{0, 1, 2, 3, 7, 31, 32, one / 2, one - 1, one, one + 1, 2 * one, 2049 * one, maxValue, maxValue + 1, high, 1 << 31, 1 << 32, 1<<40 + 3, math.MaxInt, math.MinInt, 1000, 5 * one}
	n := list[s.next(len(list))]
	switch s.next(4) {
	case 0:
		return -n
	case 1:
		return s.next(1<<31)>>s.next(31) - s.next(1<<31)>>s.next(31)
	}
	return n
}

func (s *state) numbers(count int) []int {
	list := make([]int, count)
	for i := range list {
		list[i] = s.number()
	}
	return list
}

// picture returns an image in which each texel is different.
func picture(f api.TexelFormat, width, height int) api.Image {
	m, _ := image.New(f, width, height)
	for i := range m.Data {
		m.Data[i] = byte(37*i + 11)
	}
	return m
}

// resources returns textures, samplers and buffers, of which some do not belong together.
func resources() api.Bindings {
	first, _ := mipmap.Chain(picture(api.RGBA8, 4, 2))
	second, _ := mipmap.Chain(picture(api.RGBA16F, 3, 3))
	smooth := api.Sampler{AddressU: api.Repeat, AddressV: api.Mirror, Magnify: api.Linear, Minify: api.Nearest, Mipmap: api.Linear, MaxLOD: 8 * one}
	rough := api.Sampler{AddressU: api.ClampBorder, AddressV: api.ClampToEdge, Magnify: api.Nearest, Minify: api.Linear, Mipmap: api.Nearest, MaxLOD: 8 * one, Border: api.Vec4{X: 1, Y: 2, Z: 3, W: 4}}
	return api.Bindings{
		Textures: []api.Texture{first, second, first},
		Samplers: []api.Sampler{smooth, rough},
		Buffers:  [][]byte{{1, 0, 0, 0, 255, 255, 255, 255, 9}, nil, {0, 0, 0, 128, 7, 7, 7, 127}},
	}
}

func equal(a, b api.LaneResult) bool {
	return slices.Equal(a.Outputs, b.Outputs) && a.Discarded == b.Discarded && slices.EqualFunc(a.Emitted, b.Emitted, slices.Equal) && slices.Equal(a.Cuts, b.Cuts)
}

// signal is how a list of instructions ends.
type signal int

const (
	passed signal = iota
	broken
	continued
	discarded
)

// reading is a second reading of P23.1: it finds the parts of a construct when it executes it, and notes which registers were written.
type reading struct {
	p         api.Program
	b         api.Bindings
	inputs    []int
	registers map[int]int
	result    api.LaneResult
	// early is an instruction that read a register before one was written to it.
	early []api.Instr
	seen  map[api.Opcode]bool
}

// expected returns the result of a valid program, and what was seen on the way.
func expected(p api.Program, b api.Bindings, inputs []int) reading {
	r := reading{p: p, b: b, inputs: inputs, registers: map[int]int{}, seen: map[api.Opcode]bool{}}
	r.result.Outputs = make([]int, p.Outputs)
	r.result.Discarded = r.run(p.Code) == discarded
	return r
}

// part returns the length of the construct at the beginning of instructions, and of its part up to the Else or the end.
func part(code []api.Instr) (int, int) {
	depth, first := 0, 0
	for i, in := range code {
		switch in.Op {
		case api.If, api.Loop:
			depth++
		case api.EndIf, api.EndLoop:
			depth--
		case api.Else:
			if depth == 1 {
				first = i
			}
		}
		if depth == 0 && first == 0 {
			first = i
		}
		if depth == 0 {
			return i + 1, first
		}
	}
	return len(code), len(code)
}

func (r *reading) run(code []api.Instr) signal {
	for at := 0; at < len(code); {
		in := code[at]
		r.seen[in.Op] = true
		for _, register := range isa.Uses(in) {
			if _, found := r.registers[register]; !found {
				r.early = append(r.early, in)
			}
		}
		length, end := 1, passed
		switch in.Op {
		case api.If:
			all, first := part(code[at:])
			length = all
			if r.registers[in.A] != 0 {
				end = r.run(code[at+1 : at+first])
			} else if first < all-1 {
				end = r.run(code[at+first+1 : at+all-1])
			}
		case api.Loop:
			length, _ = part(code[at:])
			for range in.Imm {
				if end = r.run(code[at+1 : at+length-1]); end == broken || end == discarded {
					break
				}
			}
			if end != discarded {
				end = passed
			}
		case api.Break:
			return broken
		case api.Continue:
			return continued
		case api.Discard:
			return discarded
		default:
			r.simple(in)
		}
		if end != passed {
			return end
		}
		at += length
	}
	return passed
}

// simple executes an instruction that is no part of a construct.
func (r *reading) simple(in api.Instr) {
	a, b, c := r.registers[in.A], r.registers[in.B], r.registers[in.C]
	word := func(list []int) int {
		if in.Imm < len(list) {
			return int(int32(list[in.Imm]))
		}
		return 0
	}
	of := func(v api.Vec4) int { return []int{v.X, v.Y, v.Z, v.W}[in.Imm%4] }
	switch in.Op {
	case api.Input:
		r.registers[in.Dst] = word(r.inputs)
	case api.Uniform:
		r.registers[in.Dst] = word(r.b.Uniforms)
	case api.Output:
		r.result.Outputs[in.Imm] = a
	case api.Sample:
		r.registers[in.Dst] = of(interpreter.Texel(r.b, in.Imm/4, a, b, c))
	case api.Fetch:
		r.registers[in.Dst] = of(interpreter.FetchTexel(r.b, in.Imm/4, a, b, c))
	case api.Load:
		r.registers[in.Dst] = interpreter.LoadWord(r.b, in.Imm, a)
	case api.Emit:
		if len(r.result.Emitted) < 12 {
			r.result.Emitted = append(r.result.Emitted, slices.Clone(r.result.Outputs))
		}
	case api.Cut:
		if n := len(r.result.Emitted); n > 0 && !slices.Contains(r.result.Cuts, n) {
			r.result.Cuts = append(r.result.Cuts, n)
		}
	default:
		r.registers[in.Dst] = isa.Compute(in.Op, a, b, c, in.Imm)
	}
}

func checkLane(t *testing.T, p api.Program, b api.Bindings, inputs []int, want api.LaneResult) {
	t.Helper()
	code, in, uniforms := slices.Clone(p.Code), slices.Clone(inputs), slices.Clone(b.Uniforms)
	got, errno := lower.LaneOf(p, b, inputs)
	if errno != api.OK || !equal(got, want) {
		t.Errorf("the result of\n%sis %v, error %d, want %v", isa.Format(p), got, errno, want)
	}
	if !slices.Equal(code, p.Code) || !slices.Equal(in, inputs) || !slices.Equal(uniforms, b.Uniforms) {
		t.Error("LaneOf changed its arguments")
	}
}

// checkOutputs checks the outputs of instructions of a fragment program with 4 registers, 2 inputs, 3 outputs, 2 uniforms, 3 textures and 4 buffers.
func checkOutputs(t *testing.T, b api.Bindings, inputs []int, code []api.Instr, want ...int) {
	t.Helper()
	p := api.Program{Stage: api.FragmentStage, Registers: 4, Inputs: 2, Outputs: 3, Uniforms: 2, Textures: 3, Buffers: 4, Code: code}
	checkLane(t, p, b, inputs, api.LaneResult{Outputs: want})
}

// set and out set a register to a number, and an output to a register.
func set(register, n int) api.Instr {
	return api.Instr{Op: api.Const, Dst: register, Imm: n}
}

func out(register, output int) api.Instr {
	return api.Instr{Op: api.Output, A: register, Imm: output}
}

func TestP23_1Instructions(t *testing.T) {
	b := resources()
	b.Uniforms = []int{1 << 32, 1<<31 + 7}
	inputs := []int{5, 1 << 31, -6, 1<<40 + 3, math.MinInt, math.MaxInt}
	for _, c := range []struct {
		code []api.Instr
		want []int
	}{
		{nil, []int{0, 0, 0}}, {[]api.Instr{set(0, 7)}, []int{0, 0, 0}},
		// Registers that were never written are 0.
		{[]api.Instr{set(0, 7), out(1, 0), out(0, 1), out(3, 2)}, []int{0, 7, 0}}, {[]api.Instr{{Op: api.NotInt, Dst: 1, A: 2}, out(1, 0)}, []int{-1, 0, 0}}, {[]api.Instr{{Op: api.Select, Dst: 1, A: 1, B: 1, C: 2}, out(1, 0)}, []int{0, 0, 0}},
		{[]api.Instr{set(0, low), out(0, 0), set(0, high), out(0, 1), out(0, 0)}, []int{high, high, 0}},
		{[]api.Instr{set(0, 6), set(1, 7), {Op: api.MulInt, Dst: 2, A: 0, B: 1}, out(2, 0), {Op: api.SubInt, Dst: 0, A: 0, B: 1}, out(0, 1)}, []int{42, -1, 0}},
		{[]api.Instr{{Op: api.Input, Dst: 0, Imm: 0}, {Op: api.Input, Dst: 1, Imm: 1}, {Op: api.Input, Dst: 2, Imm: 2}, out(0, 0), out(1, 1), out(2, 2)}, []int{5, low, -6}},
		{[]api.Instr{{Op: api.Input, Dst: 0, Imm: 3}, {Op: api.Input, Dst: 1, Imm: 4}, {Op: api.Input, Dst: 2, Imm: 5}, out(0, 0), out(1, 1), out(2, 2)}, []int{3, 0, -1}},
		{[]api.Instr{{Op: api.Uniform, Dst: 0, Imm: 0}, {Op: api.Uniform, Dst: 1, Imm: 1}, out(0, 0), out(1, 1)}, []int{0, low + 7, 0}},
		{[]api.Instr{set(1, 1), {Op: api.Load, Dst: 0, A: 1, Imm: 0}, {Op: api.Load, Dst: 2, A: 1, Imm: 1}, {Op: api.Load, Dst: 1, A: 1, Imm: 2}, out(0, 0), out(2, 1), out(1, 2)}, []int{-1, 0, 0x7f070707}},
		{[]api.Instr{{Op: api.Load, Dst: 0, A: 1, Imm: 3}, set(1, -1), {Op: api.Load, Dst: 2, A: 1, Imm: 2}, {Op: api.Load, Dst: 1, A: 2, Imm: 2}, out(0, 0), out(2, 1), out(1, 2)}, []int{0, 0, low}},
	} {
		checkOutputs(t, b, inputs, c.code, c.want...)
	}
	// Values that are missing.
	code := []api.Instr{set(0, 9), set(1, 9), set(2, 9), {Op: api.Input, Dst: 0, Imm: 1}, {Op: api.Uniform, Dst: 1, Imm: 1}, {Op: api.Input, Dst: 2, Imm: 5}, out(0, 0), out(1, 1), out(2, 2)}
	checkOutputs(t, api.Bindings{}, nil, code, 0, 0, 0)
	checkOutputs(t, api.Bindings{Uniforms: []int{4}}, []int{4}, code, 0, 0, 0)
	checkOutputs(t, api.Bindings{Uniforms: []int{4, 5}}, []int{6, 7}, code, 7, 5, 0)
}

// TestP23_1Texels reads each component of each texture, also of those that do not exist.
func TestP23_1Texels(t *testing.T) {
	b := resources()
	for _, bound := range []api.Bindings{b, {Textures: b.Textures[:1], Samplers: b.Samplers}, {Textures: b.Textures}, {}} {
		for component := range 12 {
			for _, at := range [][3]int{{0, 0, 0}, {1, 0, 0}, {0, 1, 0}, {0, 0, 1}, {20000, 40000, 0}, {40000, 20000, 30000}, {one, -one, one}, {-5, 3, 2}} {
				code := []api.Instr{set(0, at[0]), set(1, at[1]), set(2, at[2]), {Op: api.Sample, Dst: 3, A: 0, B: 1, C: 2, Imm: component}, out(3, 0), {Op: api.Fetch, Dst: 3, A: 0, B: 1, C: 2, Imm: component}, out(3, 1)}
				sampled, fetched := interpreter.Texel(bound, component/4, at[0], at[1], at[2]), interpreter.FetchTexel(bound, component/4, at[0], at[1], at[2])
				checkOutputs(t, bound, nil, code, []int{sampled.X, sampled.Y, sampled.Z, sampled.W}[component%4], []int{fetched.X, fetched.Y, fetched.Z, fetched.W}[component%4], 0)
			}
		}
	}
}

// constructs returns a program that is given by letters: 0 to 9 add the digit to output 0, i and j are If of inputs 0 and 1, e and f Else and EndIf, l, m and n loops of 2, 3 and 16 iterations, o is EndLoop, b and c are Break and Continue, d, t and u Discard, Emit and Cut, and behind p, each q subtracts 1 from input 0.
func constructs(stage api.Stage, text string) api.Program {
	p := api.Program{Stage: stage, Registers: 6, Inputs: 2, Outputs: 1, Code: []api.Instr{{Op: api.Input, Dst: 4, Imm: 0}, {Op: api.Input, Dst: 5, Imm: 1}}}
	letters := map[rune]api.Instr{
		'i': {Op: api.If, A: 4}, 'j': {Op: api.If, A: 5}, 'e': {Op: api.Else}, 'f': {Op: api.EndIf}, 'l': {Op: api.Loop, Imm: 2}, 'm': {Op: api.Loop, Imm: 3}, 'n': {Op: api.Loop, Imm: 16}, 'o': {Op: api.EndLoop}, 'b': {Op: api.Break}, 'c': {Op: api.Continue}, 'd': {Op: api.Discard}, 't': {Op: api.Emit}, 'u': {Op: api.Cut},
		'p': {Op: api.Const, Dst: 3, Imm: -1}, 'q': {Op: api.AddInt, Dst: 4, A: 4, B: 3},
	}
	for _, letter := range text {
		if letter <= '9' {
			p.Code = append(p.Code, set(1, int(letter-'0')), api.Instr{Op: api.AddInt, Dst: 0, A: 0, B: 1}, out(0, 0))
		} else {
			p.Code = append(p.Code, letters[letter])
		}
	}
	return p
}

func TestP23_1Constructs(t *testing.T) {
	for _, c := range []struct {
		text   string
		inputs []int
		want   int
	}{
		{"1i2f3", []int{1}, 6}, {"1i2f3", []int{0}, 4}, {"1i2f3", []int{-1}, 6}, {"1i2f3", []int{1 << 32}, 4}, {"1i2e3f4", []int{1}, 7}, {"1i2e3f4", []int{0}, 8}, {"i1e2f", nil, 2}, {"ief5", []int{1}, 5}, {"ief5", []int{0}, 5}, {"if5", []int{0}, 5},
		{"i1j2e4f8e3j5e7ff", []int{1, 1}, 11}, {"i1j2e4f8e3j5e7ff", []int{1, 0}, 13}, {"i1j2e4f8e3j5e7ff", []int{0, 1}, 8}, {"i1j2e4f8e3j5e7ff", []int{0, 0}, 10}, {"ij1fe2f", []int{1, 1}, 1}, {"ij1fe2f", []int{1, 0}, 0}, {"ij1fe2f", []int{0, 1}, 2}, {"ij1ff2", []int{0, 1}, 2}, {"ie1j2ff3", []int{1, 1}, 3}, {"ie1j2ff3", []int{0, 1}, 6},
		{"l1o", nil, 2}, {"m1o", nil, 3}, {"n1o", nil, 16}, {"lo5", nil, 5}, {"l1o2m1o", nil, 7}, {"m1l1o1o", nil, 12}, {"lmn1ooo", nil, 96}, {"nnn1ooo", nil, 4096}, {"il1of2", []int{1}, 4}, {"il1of2", []int{0}, 2},
		{"m1b2o3", nil, 4}, {"m1c2o3", nil, 6}, {"mb1o2", nil, 2}, {"mc1o2", nil, 2}, {"m1ib2f3o4", []int{1}, 5}, {"m1ib2f3o4", []int{0}, 16}, {"m1ic2e3f4o5", []int{1}, 8}, {"m1ic2e3f4o5", []int{0}, 29}, {"m1jibffo4", []int{1, 1}, 5}, {"m1jibffo4", []int{1, 0}, 7},
		{"m1l1b2o3o", nil, 15}, {"m1l1c2o3o", nil, 18}, {"m1l1o3b4o5", nil, 11}, {"m1l1o3c4o5", nil, 23}, {"nn1bo2bo", nil, 3}, {"lmic1fob2o3", []int{1}, 3}, {"lmic1fob2o3", []int{0}, 3}, {"ml1jb1fo2o", []int{0, 1}, 9}, {"ml1jb1fo2o", []int{0, 0}, 12},
		// The iterations are counted anew each time, also behind a break.
		{"m1nbo2mboo", nil, 9}, {"lm1oo", nil, 6}, {"lm1jbfoo", []int{0, 1}, 2}, {"lm1c2oo", nil, 6}, {"mln1oboo", nil, 48},
		// The condition changes inside of the construct, and in each iteration.
		{"piq1qe2f", []int{1}, 1}, {"pm1iqb2e4f8o", []int{2}, 1}, {"pn1iqc2f4bo", []int{2}, 7}, {"pniq1l1oce2bfo", []int{3}, 11},
	} {
		checkLane(t, constructs(1, c.text), api.Bindings{}, c.inputs, api.LaneResult{Outputs: []int{c.want}})
	}
}

func TestP23_1Discard(t *testing.T) {
	for _, c := range []struct {
		text      string
		inputs    []int
		want      int
		discarded bool
	}{
		{"d", nil, 0, true}, {"1d2", nil, 1, true}, {"1id2f3", []int{1}, 1, true}, {"1id2f3", []int{0}, 4, false}, {"1i2e3d4f5", []int{0}, 4, true}, {"1i2e3d4f5", []int{1}, 8, false}, {"n1d2o3", nil, 1, true}, {"pn1iqcf2d4o8", []int{3}, 6, true}, {"nl1om1jdfoo", []int{0, 1}, 3, true}, {"lbdo1", nil, 1, false}, {"lcdo1", nil, 1, false},
	} {
		checkLane(t, constructs(3, c.text), api.Bindings{}, c.inputs, api.LaneResult{Outputs: []int{c.want}, Discarded: c.discarded})
	}
}

func TestP23_1Emit(t *testing.T) {
	twelve := []int{1, 2, 3, 4, 5, 6, 7, 8, 9, 10, 11, 12}
	for _, c := range []struct {
		text          string
		emitted, cuts []int
		want          int
	}{
		{"t", []int{0}, nil, 0}, {"1t2t4", []int{1, 3}, nil, 7}, {"tt1", []int{0, 0}, nil, 1}, {"u", nil, nil, 0}, {"ut", []int{0}, nil, 0}, {"tu", []int{0}, []int{1}, 0}, {"uutuu1ttu2u", []int{0, 1, 1}, []int{1, 3}, 3},
		{"mm1too", twelve[:9], nil, 9}, {"n1to", twelve, nil, 16}, {"nm1too", twelve, nil, 48}, {"ntuo", make([]int, 12), twelve, 0}, {"nto1tut2u", make([]int, 12), []int{12}, 3}, {"m1tu2o", []int{1, 4, 7}, []int{1, 2, 3}, 9},
	} {
		want := api.LaneResult{Outputs: []int{c.want}, Cuts: c.cuts}
		for _, n := range c.emitted {
			want.Emitted = append(want.Emitted, []int{n})
		}
		checkLane(t, constructs(2, c.text), api.Bindings{}, nil, want)
	}
	checkLane(t, api.Program{Stage: 2, Code: []api.Instr{{Op: api.Emit}, {Op: api.Cut}, {Op: api.Emit}}}, api.Bindings{}, nil, api.LaneResult{Emitted: [][]int{nil, nil}, Cuts: []int{1}})
}

// wrongPrograms returns programs that isa.Validate rejects.
func wrongPrograms() []api.Program {
	with := func(code ...api.Instr) api.Program {
		return api.Program{Stage: 1, Registers: 2, Outputs: 1, Code: code}
	}
	return []api.Program{{}, {Stage: 4}, {Stage: 1, Registers: -1}, {Stage: 1, Inputs: 33}, {Stage: 2, Outputs: math.MaxInt}, {Stage: 3, Outputs: math.MinInt}, with(api.Instr{}), with(api.Instr{Op: 53}), with(api.Instr{Op: api.Move, Dst: 2}), with(api.Instr{Op: api.Move, A: -1}), with(api.Instr{Op: api.Move, B: 1}), with(out(0, 1)), with(api.Instr{Op: api.If}), with(api.Instr{Op: api.Else}), with(api.Instr{Op: api.EndIf}), with(api.Instr{Op: api.EndLoop}), with(api.Instr{Op: api.Break}), with(api.Instr{Op: api.Continue}), with(api.Instr{Op: api.Loop, Imm: 1}), with(api.Instr{Op: api.Loop, Imm: 17}, api.Instr{Op: api.EndLoop}), with(api.Instr{Op: api.Discard}), with(api.Instr{Op: api.Emit}), with(api.Instr{Op: api.Cut}), with(api.Instr{Op: api.Load}), with(slices.Repeat([]api.Instr{{Op: api.Move}}, 16385)...)}
}

func TestP23_1Rejected(t *testing.T) {
	for _, p := range wrongPrograms() {
		if got, code := lower.LaneOf(p, resources(), []int{1, 2}); code != api.ErrShader || !equal(got, api.LaneResult{}) {
			t.Errorf("the result of a program with an error is %v, error %d", got, code)
		}
	}
}

// TestP23_1Memory changes results, which share no memory with arguments and one another.
func TestP23_1Memory(t *testing.T) {
	p := api.Program{Stage: 2, Registers: 2, Inputs: 2, Outputs: 2, Uniforms: 1, Code: []api.Instr{{Op: api.Input, Dst: 0, Imm: 1}, {Op: api.Uniform, Dst: 1}, out(0, 0), out(1, 1), {Op: api.Emit}, {Op: api.Emit}, {Op: api.Cut}, {Op: api.Emit}, {Op: api.Cut}}}
	b, in := api.Bindings{Uniforms: []int{7}}, []int{8, 9}
	want := api.LaneResult{Outputs: []int{9, 7}, Emitted: [][]int{{9, 7}, {9, 7}, {9, 7}}, Cuts: []int{2, 3}}
	for range 2 {
		checkLane(t, p, b, in, want)
		got, _ := lower.LaneOf(p, b, in)
		lists := append(slices.Clone(got.Emitted), got.Outputs, got.Cuts)
		for i, list := range lists {
			whole := list[:cap(list)]
			for k := range whole {
				whole[k] = -1 - i
			}
		}
		for i, list := range lists {
			if slices.ContainsFunc(list, func(n int) bool { return n != -1-i }) {
				t.Errorf("list %d of the result shares memory with another one: %v", i, list)
			}
		}
	}
}

// instruction returns an arbitrary instruction that is no control instruction, for a program with 4 registers.
func (s *state) instruction(p api.Program) api.Instr {
	for {
		in := api.Instr{Op: api.Opcode(1 + s.next(42))}
		d, a, b, c, i := isa.Operands(in.Op)
		for k, field := range []*int{&in.Dst, &in.A, &in.B, &in.C} {
			if []bool{d, a, b, c}[k] {
				*field = s.next(p.Registers)
			}
		}
		limit := map[api.Opcode]int{api.Input: p.Inputs, api.Uniform: p.Uniforms, api.Output: p.Outputs, api.Sample: 4 * p.Textures, api.Fetch: 4 * p.Textures, api.Load: p.Buffers}[in.Op]
		if in.Op == api.Input && p.Stage == api.FragmentStage {
			limit *= 3
		}
		switch {
		case in.Op == api.Const:
			in.Imm = int(int32(s.number()))
		case i && limit == 0:
			continue
		case i:
			in.Imm = s.next(limit)
		}
		return in
	}
}

// block returns an arbitrary list of instructions in which all constructs are closed.
func (s *state) block(p api.Program, depth, loops int) []api.Instr {
	var code []api.Instr
	for range s.next(6) {
		switch choice := s.next(12); {
		case choice < 2 && depth > 0:
			code = append(append(code, api.Instr{Op: api.If, A: s.next(p.Registers)}), s.block(p, depth-1, loops)...)
			if s.next(2) == 0 {
				code = append(append(code, api.Instr{Op: api.Else}), s.block(p, depth-1, loops)...)
			}
			code = append(code, api.Instr{Op: api.EndIf})
		case choice == 2 && depth > 0 && loops < 3:
			code = append(append(code, api.Instr{Op: api.Loop, Imm: 1 + s.next(4)}), s.block(p, depth-1, loops+1)...)
			code = append(code, api.Instr{Op: api.EndLoop})
		case choice == 3 && loops > 0:
			code = append(code, api.Instr{Op: []api.Opcode{api.Break, api.Continue}[s.next(2)]})
		case choice == 4 && p.Stage == api.FragmentStage && s.next(4) == 0:
			code = append(code, api.Instr{Op: api.Discard})
		case choice < 6 && p.Stage == api.GeometryStage:
			code = append(code, api.Instr{Op: []api.Opcode{api.Emit, api.Cut}[s.next(2)]})
		default:
			code = append(code, s.instruction(p))
		}
	}
	return code
}

// program returns an arbitrary valid program.
func (s *state) program() api.Program {
	p := api.Program{Stage: api.Stage(1 + s.next(3)), Registers: 1 + s.next(5), Inputs: s.next(4), Outputs: 1 + s.next(3), Uniforms: s.next(4), Textures: s.next(4), Buffers: s.next(5)}
	for range 4 {
		p.Code = append(p.Code, s.block(p, 5, 0)...)
	}
	for i := range p.Outputs {
		p.Code = append(p.Code, out(s.next(p.Registers), i))
	}
	return p
}

// TestP23_1Arbitrary compares LaneOf with the second reading for arbitrary programs.
func TestP23_1Arbitrary(t *testing.T) {
	s := state(1)
	seen := map[api.Opcode]int{}
	results := map[bool]int{}
	for range 8000 {
		p := s.program()
		if code := isa.Validate(p); code != api.OK {
			t.Fatalf("the test is wrong: a program has error %d", code)
		}
		b := resources()
		b.Uniforms = s.numbers(s.next(5))
		inputs := s.numbers(s.next(3*p.Inputs + 2))
		r := expected(p, b, inputs)
		checkLane(t, p, b, inputs, r.result)
		for op := range r.seen {
			seen[op]++
		}
		results[r.result.Discarded]++
	}
	for op := api.Const; op <= api.Cut; op++ {
		if seen[op] < 50 && op != api.Else && op != api.EndIf && op != api.EndLoop {
			t.Errorf("%s was executed in %d programs only", isa.Name(op), seen[op])
		}
	}
	if results[true] < 50 {
		t.Errorf("only %d programs were discarded", results[true])
	}
}
