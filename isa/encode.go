package isa

import (
	"frustum/api"
	"frustum/codec"
)

// Encode returns the bytes of a valid program.
func Encode(p api.Program) ([]byte, api.Errno) {
	if Validate(p) != api.OK {
		return nil, api.ErrShader
	}
	list := []int{int(p.Stage), p.Registers, p.Inputs, p.Outputs, p.Uniforms, p.Textures, p.Buffers, len(p.Code)}
	for _, in := range p.Code {
		list = append(list, int(in.Op))
		list = append(list, numbers(in)...)
	}
	var b []byte
	for _, n := range list {
		b = append(b, codec.AppendInt(nil, n)...)
	}
	return b, api.OK
}

// reader is a place in the bytes of a program. Behind an error nothing more is read.
type reader struct {
	b    []byte
	at   int
	code api.Errno
}

// Decode returns the program that was encoded as these bytes.
func Decode(b []byte) (api.Program, api.Errno) {
	r := reader{b: b}
	p := r.program()
	switch {
	case r.code != api.OK:
		return api.Program{}, r.code
	case r.at < len(b):
		return api.Program{}, api.ErrSyntax
	case Validate(p) != api.OK:
		return api.Program{}, api.ErrShader
	}
	return p, api.OK
}

// program reads a program.
func (r *reader) program() api.Program {
	var p api.Program
	p.Stage = api.Stage(r.number())
	p.Registers = r.number()
	p.Inputs = r.number()
	p.Outputs = r.number()
	p.Uniforms = r.number()
	p.Textures = r.number()
	p.Buffers = r.number()
	count := r.number()
	if !isWithin(count, 0, api.MaxInstructions) {
		r.fail(api.ErrTooLong)
	}
	for i := 0; i < count && r.code == api.OK; i++ {
		p.Code = append(p.Code, r.instruction())
	}
	return p
}

// instruction reads an instruction.
func (r *reader) instruction() api.Instr {
	in := api.Instr{Op: api.Opcode(r.number())}
	if !Valid(in.Op) {
		r.fail(api.ErrKind)
	}
	dst, a, b, c, imm := Operands(in.Op)
	in.Dst = r.field(dst)
	in.A = r.field(a)
	in.B = r.field(b)
	in.C = r.field(c)
	in.Imm = r.field(imm)
	return in
}

// field reads a field, if the instruction uses it.
func (r *reader) field(used bool) int {
	if !used {
		return 0
	}
	return r.number()
}

// number reads a number.
func (r *reader) number() int {
	if r.code != api.OK {
		return 0
	}
	n, after, code := codec.ReadInt(r.b, r.at)
	if code != api.OK {
		r.code = code
		return 0
	}
	r.at = after
	return n
}

// fail notes an error. Only the first one counts.
func (r *reader) fail(code api.Errno) {
	if r.code == api.OK {
		r.code = code
	}
}
