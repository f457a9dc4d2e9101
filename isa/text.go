package isa

import (
	"strings"

	"frustum/api"
	"frustum/format"
)

// Uses returns the registers that an instruction reads.
func Uses(in api.Instr) []int {
	_, a, b, c, _ := Operands(in.Op)
	var list []int
	if a {
		list = append(list, in.A)
	}
	if b {
		list = append(list, in.B)
	}
	if c {
		list = append(list, in.C)
	}
	return list
}

// numbers returns the fields that an instruction uses, in their order.
func numbers(in api.Instr) []int {
	dst, _, _, _, imm := Operands(in.Op)
	var list []int
	if dst {
		list = append(list, in.Dst)
	}
	list = append(list, Uses(in)...)
	if imm {
		list = append(list, in.Imm)
	}
	return list
}

// Format returns a line of text for each instruction.
func Format(p api.Program) string {
	var text strings.Builder
	for _, in := range p.Code {
		text.WriteString(line(in))
		text.WriteByte('\n')
	}
	return text.String()
}

// line returns the text of an instruction.
func line(in api.Instr) string {
	if !Valid(in.Op) {
		return "?"
	}
	words := []string{Name(in.Op)}
	_, _, _, _, imm := Operands(in.Op)
	list := numbers(in)
	for i, n := range list {
		word := format.FormatInt(n)
		if !imm || i < len(list)-1 {
			word = "r" + word
		}
		words = append(words, word)
	}
	return format.JoinFields(words...)
}
