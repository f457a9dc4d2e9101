package isa_test

import (
	"math"
	"slices"
	"testing"

	"frustum/api"
	"frustum/codec"
	"frustum/isa"
)

// everything returns a program with every opcode that its stage has, and the greatest numbers.
func everything(stage api.Stage) api.Program {
	p := program(stage)
	for op := api.Opcode(1); op <= 52; op++ {
		if isOf(stage, op) {
			p.Code = append(p.Code, closed(instruction(p, op))...)
		}
	}
	return p
}

// fieldsOf returns the fields of an instruction that its opcode uses.
func fieldsOf(in api.Instr) []int {
	var list []int
	_, fields := row(in.Op)
	for _, field := range fields {
		switch field {
		case 'd':
			list = append(list, in.Dst)
		case 'a':
			list = append(list, in.A)
		case 'b':
			list = append(list, in.B)
		case 'c':
			list = append(list, in.C)
		case 'i':
			list = append(list, in.Imm)
		}
	}
	return list
}

// encoding returns the bytes of a list of numbers.
func encoding(numbers ...int) []byte {
	var b []byte
	for _, n := range numbers {
		b = codec.AppendInt(b, n)
	}
	return b
}

// numbersOf returns the numbers of the encoding of a program.
func numbersOf(p api.Program) []int {
	list := []int{int(p.Stage), p.Registers, p.Inputs, p.Outputs, p.Uniforms, p.Textures, p.Buffers, len(p.Code)}
	for _, in := range p.Code {
		list = append(append(list, int(in.Op)), fieldsOf(in)...)
	}
	return list
}

// arbitrary returns a valid program.
func arbitrary(s *state) api.Program {
	p := api.Program{Stage: api.Stage(1 + s.next(3)), Registers: 1 + s.next(8192), Inputs: s.next(33), Outputs: s.next(33), Uniforms: s.next(65), Textures: s.next(5), Buffers: s.next(5)}
	for range s.next(20) {
		op := api.Opcode(1 + s.next(52))
		in := api.Instr{Op: op}
		for field, register := range map[string]*int{"d": &in.Dst, "a": &in.A, "b": &in.B, "c": &in.C} {
			if uses(op, field) {
				*register = len(p.Code) * 7919 % p.Registers
			}
		}
		if least, most := bounds(p, op); uses(op, "i") {
			if most < least {
				continue
			}
			in.Imm = least + s.next(most-least+1)
		}
		if isOf(p.Stage, op) {
			p.Code = append(p.Code, closed(in)...)
		}
	}
	return p
}

func checkEncode(t *testing.T, p api.Program) []byte {
	t.Helper()
	code := slices.Clone(p.Code)
	got, errno := isa.Encode(p)
	if want := encoding(numbersOf(p)...); errno != api.OK || !slices.Equal(got, want) {
		t.Errorf("the encoding is %x, error %d, want %x", got, errno, want)
	}
	if !slices.Equal(code, p.Code) {
		t.Error("Encode changed the program")
	}
	return got
}

func checkDecode(t *testing.T, b []byte, want api.Program) {
	t.Helper()
	before := slices.Clone(b)
	got, errno := isa.Decode(b)
	if errno != api.OK || !isa.Equal(got, want) || !slices.Equal(numbersOf(got), numbersOf(want)) || !slices.Equal(got.Code, want.Code) {
		t.Errorf("the program of %x is %v, error %d, want %v", b, got, errno, want)
	}
	if !slices.Equal(b, before) {
		t.Error("Decode changed the bytes")
	}
}

func checkNoProgram(t *testing.T, b []byte, want api.Errno) {
	t.Helper()
	got, errno := isa.Decode(b)
	if errno != want || !isa.Equal(got, api.Program{}) {
		t.Errorf("the program of %x is %v, error %d, want %d", b, got, errno, want)
	}
}

func TestP22_4Uses(t *testing.T) {
	for op := api.Opcode(-2); op <= 60; op++ {
		in := api.Instr{Op: op, Dst: 11, A: -12, B: 13, C: math.MaxInt, Imm: 15}
		var want []int
		for i, field := range []string{"a", "b", "c"} {
			if uses(op, field) {
				want = append(want, []int{-12, 13, math.MaxInt}[i])
			}
		}
		if got := isa.Uses(in); !slices.Equal(got, want) {
			t.Errorf("opcode %d reads %v, want %v", op, got, want)
		}
	}
	for _, op := range noOpcodes() {
		if got := isa.Uses(api.Instr{Op: op, A: 1, B: 2, C: 3}); len(got) > 0 {
			t.Errorf("opcode %d reads %v", op, got)
		}
	}
}

func TestP22_4Format(t *testing.T) {
	for _, c := range []struct {
		in   api.Instr
		want string
	}{
		{api.Instr{Op: api.Add, Dst: 2, A: 0, B: 1}, "add r2 r0 r1"}, {api.Instr{Op: api.Const, Dst: 3, Imm: -7}, "const r3 -7"}, {api.Instr{Op: api.Move, Dst: 1, A: 2}, "move r1 r2"}, {api.Instr{Op: api.Select, Dst: 1, A: 2, B: 3, C: 4}, "select r1 r2 r3 r4"}, {api.Instr{Op: api.Input, Dst: 1, Imm: 2}, "input r1 2"}, {api.Instr{Op: api.Output, A: 1, Imm: 2}, "output r1 2"}, {api.Instr{Op: api.Sample, Dst: 1, A: 2, B: 3, C: 4, Imm: 5}, "sample r1 r2 r3 r4 5"}, {api.Instr{Op: api.Load, Dst: 1, A: 2, Imm: 3}, "load r1 r2 3"}, {api.Instr{Op: api.If, A: 8191}, "if r8191"}, {api.Instr{Op: api.Else}, "else"}, {api.Instr{Op: api.Loop, Imm: 16}, "loop 16"}, {api.Instr{Op: api.EndLoop, Dst: 9, A: 9, B: 9, C: 9, Imm: 9}, "end-loop"}, {api.Instr{Op: api.FixedOfInt, Dst: -1, A: math.MinInt, B: 5}, "fixed-of-int r-1 r-9223372036854775808"}, {api.Instr{Op: api.Uniform, Dst: math.MaxInt, Imm: -2}, "uniform r9223372036854775807 -2"}, {api.Instr{}, "?"}, {api.Instr{Op: 53, Dst: 1, A: 2}, "?"}, {api.Instr{Op: -1, Imm: 3}, "?"},
	} {
		if got := isa.Format(api.Program{Code: []api.Instr{c.in}}); got != c.want+"\n" {
			t.Errorf("the text of %v is %q, want %q", c.in, got, c.want)
		}
	}
	// Programs need not be valid.
	text, lines := "", []api.Instr{}
	for op := api.Opcode(-1); op <= 54; op++ {
		name, fields := row(op)
		if name == "" {
			name = "?"
		}
		line := name
		for _, field := range fields {
			line += map[rune]string{' ': "", 'd': " r21", 'a': " r22", 'b': " r23", 'c': " r24", 'i': " 25"}[field]
		}
		text, lines = text+line+"\n", append(lines, api.Instr{Op: op, Dst: 21, A: 22, B: 23, C: 24, Imm: 25})
	}
	if got := isa.Format(api.Program{Stage: 9, Code: lines}); got != text {
		t.Errorf("the text of all opcodes is %q, want %q", got, text)
	}
	if got := isa.Format(program(1)); got != "" {
		t.Errorf("the text of no instructions is %q", got)
	}
}

func TestP22_5Encode(t *testing.T) {
	got, errno := isa.Encode(api.Program{Stage: 3, Registers: 64, Inputs: 1, Outputs: 2, Uniforms: 3, Textures: 4, Buffers: 0, Code: []api.Instr{{Op: api.Const, Dst: 63, Imm: -1}, {Op: api.Move, Dst: 0, A: 5}}})
	if want := []byte{6, 0x80, 1, 2, 4, 6, 8, 0, 4, 2, 126, 1, 4, 0, 10}; errno != api.OK || !slices.Equal(got, want) {
		t.Errorf("the encoding is %x, error %d, want %x", got, errno, want)
	}
	for stage := api.VertexStage; stage <= api.FragmentStage; stage++ {
		for _, p := range []api.Program{{Stage: stage}, program(stage), everything(stage), {Stage: stage, Registers: 8192, Inputs: 32, Outputs: 32, Uniforms: 64, Textures: 4, Buffers: 4}} {
			checkDecode(t, checkEncode(t, p), p)
		}
	}
	wrong := []api.Program{{}, {Stage: 4}, {Stage: 1, Registers: -1}, {Stage: 1, Registers: 8193}, program(1, api.Instr{}), program(1, api.Instr{Op: api.Move, Dst: 5}), program(1, api.Instr{Op: api.Move, Imm: 1}), program(1, api.Instr{Op: api.If}), program(1, api.Instr{Op: api.Emit}), program(1, slices.Repeat([]api.Instr{{Op: api.Move}}, 16385)...)}
	for _, p := range wrong {
		if got, errno := isa.Encode(p); errno != api.ErrShader || len(got) > 0 {
			t.Errorf("the encoding of a program with an error is %x, error %d", got, errno)
		}
	}
}

func TestP22_5Long(t *testing.T) {
	p := program(1, slices.Repeat([]api.Instr{{Op: api.Const, Dst: 1, Imm: high}, {Op: api.Select, Dst: 4, A: 3, B: 2, C: 1}}, 8192)...)
	got, errno := isa.Encode(p)
	if errno != api.OK {
		t.Fatalf("the longest program has error %d", errno)
	}
	checkDecode(t, got, p)
	// One instruction more.
	numbers := numbersOf(p)
	numbers[7]++
	checkNoProgram(t, encoding(append(numbers, int(api.Move), 1, 1)...), api.ErrTooLong)
}

func TestP22_5Errors(t *testing.T) {
	header := []int{1, 5, 3, 2, 4, 2, 3}
	with := func(numbers ...int) []byte { return encoding(slices.Concat(header, numbers)...) }
	for _, c := range []struct {
		b    []byte
		want api.Errno
	}{
		{nil, api.ErrTruncated}, {[]byte{0x80}, api.ErrTruncated}, {[]byte{0x80, 0}, api.ErrSyntax}, {encoding(header...), api.ErrTruncated},
		{with(-1), api.ErrTooLong}, {with(math.MinInt), api.ErrTooLong}, {with(16385), api.ErrTooLong}, {with(math.MaxInt), api.ErrTooLong}, {with(16384), api.ErrTruncated}, {with(1), api.ErrTruncated}, {with(-1, 0), api.ErrTooLong},
		{with(1, 0), api.ErrKind}, {with(1, 53), api.ErrKind}, {with(1, -1), api.ErrKind}, {with(1, 1<<32+1), api.ErrKind}, {with(1, 0, 1, 2), api.ErrKind}, {with(2, 0, 0), api.ErrKind}, {with(2, 44, 0), api.ErrKind}, {with(2, 44), api.ErrTruncated},
		{with(1, 1), api.ErrTruncated}, {with(1, 1, 2), api.ErrTruncated}, {with(1, 3, 1, 1), api.ErrTruncated}, {append(with(1, 1), 0x80, 0), api.ErrSyntax}, {append(with(1, 1, 1), 0x80, 0), api.ErrSyntax}, {append(with(1), 0x80, 0), api.ErrSyntax}, {append(with(), 0x80, 0), api.ErrSyntax}, {append(with(1), 0x80), api.ErrTruncated},
		// Bytes that remain come before the errors of a program, whatever they are.
		{append(with(0), 0), api.ErrSyntax}, {append(with(0), 0x80), api.ErrSyntax}, {append(with(1, 44), 0), api.ErrSyntax}, {append(encoding(9, 0, 0, 0, 0, 0, 0, 0), 1), api.ErrSyntax}, {append(with(1, 1, 99, 5), 9, 9), api.ErrSyntax},
		{with(1, 44), api.ErrShader}, {with(1, 43, 1), api.ErrShader}, {with(1, 1, 5, 7), api.ErrShader}, {with(1, 1, -1, 7), api.ErrShader}, {with(1, 1, 4, high+1), api.ErrShader}, {with(1, 46, 17), api.ErrShader}, {with(1, 50), api.ErrShader}, {with(1, 51), api.ErrShader},
		{encoding(0, 0, 0, 0, 0, 0, 0, 0), api.ErrShader}, {encoding(4, 0, 0, 0, 0, 0, 0, 0), api.ErrShader}, {encoding(1, -1, 0, 0, 0, 0, 0, 0), api.ErrShader}, {encoding(1, 8193, 0, 0, 0, 0, 0, 0), api.ErrShader}, {encoding(1, 0, 33, 0, 0, 0, 0, 0), api.ErrShader}, {encoding(1, 0, 0, 33, 0, 0, 0, 0), api.ErrShader}, {encoding(1, 0, 0, 0, 65, 0, 0, 0), api.ErrShader}, {encoding(1, 0, 0, 0, 0, 5, 0, 0), api.ErrShader}, {encoding(1, 0, 0, 0, 0, 0, 5, 0), api.ErrShader},
		// The first error in the order of the fields.
		{append(encoding(9, 0, 0, 0, 0, 0, 0), 0x80, 0), api.ErrSyntax}, {encoding(9, 9999, 99, 99, 99, 99, 99, -1), api.ErrTooLong}, {append(with(3, 99), 0x80, 0), api.ErrKind}, {append(with(3, 1), 0x80, 0), api.ErrSyntax}, {with(3, 44, 99, 1), api.ErrKind},
	} {
		checkNoProgram(t, c.b, c.want)
	}
	for at := range header {
		checkNoProgram(t, append(encoding(header[:at]...), 0x80, 0), api.ErrSyntax)
		checkNoProgram(t, append(encoding(header[:at]...), 0xff), api.ErrTruncated)
	}
}

// expectedDecode is a second reading of P22.5: it reads all numbers first, and then takes them for a program.
func expectedDecode(b []byte) (api.Program, api.Errno) {
	var numbers []int
	at, end := 0, api.OK
	for {
		n, after, code := codec.ReadInt(b, at)
		if code != api.OK {
			end = code
			break
		}
		numbers, at = append(numbers, n), after
	}
	if at == len(b) {
		end = api.ErrTruncated
	}
	if len(numbers) < 8 {
		return api.Program{}, end
	}
	h := numbers[:8]
	p := api.Program{Stage: api.Stage(h[0]), Registers: h[1], Inputs: h[2], Outputs: h[3], Uniforms: h[4], Textures: h[5], Buffers: h[6]}
	if h[7] < 0 || h[7] > 16384 {
		return api.Program{}, api.ErrTooLong
	}
	rest := numbers[8:]
	for range h[7] {
		if len(rest) == 0 {
			return api.Program{}, end
		}
		in := api.Instr{Op: api.Opcode(rest[0])}
		name, fields := row(in.Op)
		if name == "" {
			return api.Program{}, api.ErrKind
		}
		places := map[rune]*int{'d': &in.Dst, 'a': &in.A, 'b': &in.B, 'c': &in.C, 'i': &in.Imm}
		rest = rest[1:]
		for _, field := range fields {
			if place := places[field]; place != nil {
				if len(rest) == 0 {
					return api.Program{}, end
				}
				*place, rest = rest[0], rest[1:]
			}
		}
		p.Code = append(p.Code, in)
	}
	if len(rest) > 0 || at < len(b) {
		return api.Program{}, api.ErrSyntax
	}
	if isa.Validate(p) != api.OK {
		return api.Program{}, api.ErrShader
	}
	return p, api.OK
}

// checkBytes compares Decode with the second reading; a program of the bytes has no other encoding.
func checkBytes(t *testing.T, b []byte, counts map[api.Errno]int) {
	t.Helper()
	want, code := expectedDecode(b)
	counts[code]++
	if code != api.OK {
		checkNoProgram(t, b, code)
		return
	}
	checkDecode(t, b, want)
	if again := checkEncode(t, want); !slices.Equal(again, b) {
		t.Errorf("a program has the encodings %x and %x", b, again)
	}
}

// TestP22_5Changed cuts off the bytes of programs at each place, and changes, adds and removes bytes.
func TestP22_5Changed(t *testing.T) {
	counts := map[api.Errno]int{}
	s := state(3)
	for round := range 20 {
		p := arbitrary(&s)
		if round < 3 {
			p = everything(api.Stage(1 + round))
		}
		b, _ := isa.Encode(p)
		for at := range b {
			checkBytes(t, b[:at], counts)
			for _, value := range []byte{0, 1, 2, 88, 106, 127, 128, 255, b[at] + 2, b[at] - 2, b[at] ^ 1, b[at] ^ 128, byte(s.next(256))} {
				changed := slices.Clone(b)
				changed[at] = value
				checkBytes(t, changed, counts)
				checkBytes(t, slices.Insert(slices.Clone(b), at, value), counts)
			}
			checkBytes(t, slices.Delete(slices.Clone(b), at, at+1), counts)
			checkBytes(t, append(slices.Clone(b), b[at]), counts)
		}
	}
	for _, code := range []api.Errno{api.OK, api.ErrTruncated, api.ErrSyntax, api.ErrTooLong, api.ErrKind, api.ErrShader} {
		if counts[code] < 20 {
			t.Errorf("only %d of the lists of bytes have error %d: %v", counts[code], code, counts)
		}
	}
}

func TestP22_5Equal(t *testing.T) {
	a := everything(2)
	if !isa.Equal(a, everything(2)) || !isa.Equal(api.Program{}, api.Program{Code: []api.Instr{}}) || !isa.Equal(program(1), program(1)) {
		t.Error("equal programs are different")
	}
	b := a
	for i, field := range []*int{&b.Registers, &b.Inputs, &b.Outputs, &b.Uniforms, &b.Textures, &b.Buffers, (*int)(&b.Stage)} {
		*field++
		if isa.Equal(a, b) || isa.Equal(b, a) {
			t.Errorf("programs with a different field %d are equal", i)
		}
		*field--
	}
	for i := range a.Code {
		b.Code = slices.Clone(a.Code)
		in := &b.Code[i]
		for k, field := range []*int{(*int)(&in.Op), &in.Dst, &in.A, &in.B, &in.C, &in.Imm} {
			*field++
			if isa.Equal(a, b) || isa.Equal(b, a) {
				t.Errorf("programs with a different field %d of an instruction are equal", k)
			}
			*field--
		}
	}
	b.Code = a.Code[:len(a.Code)-1]
	if isa.Equal(a, b) || isa.Equal(b, a) || isa.Equal(program(1), program(1, api.Instr{})) {
		t.Error("programs with different numbers of instructions are equal")
	}
}

func TestP22_6RoundTrip(t *testing.T) {
	s := state(5)
	lengths := map[int]bool{}
	for range 1500 {
		p := arbitrary(&s)
		lengths[len(p.Code)] = true
		b := checkEncode(t, p)
		checkDecode(t, b, p)
		// Results share no memory with the bytes, and no encoding is followed by another one.
		first, _ := isa.Decode(b)
		clear(b)
		if !isa.Equal(first, p) {
			t.Fatal("the program changes with the bytes")
		}
	}
	if len(lengths) < 20 {
		t.Errorf("the programs have only %d lengths", len(lengths))
	}
}

// TestP22_6Different checks that different programs have different encodings.
func TestP22_6Different(t *testing.T) {
	s := state(6)
	seen := map[string]api.Program{}
	for range 3000 {
		p := arbitrary(&s)
		p.Code = p.Code[:0]
		if s.next(2) == 0 {
			p.Registers, p.Code = 3, append(p.Code, api.Instr{Op: api.Add, Dst: s.next(3), A: s.next(3), B: s.next(3)})
		}
		b, _ := isa.Encode(p)
		if other, found := seen[string(b)]; found && !isa.Equal(p, other) {
			t.Errorf("two programs have the encoding %x", b)
		}
		seen[string(b)] = p
	}
}
