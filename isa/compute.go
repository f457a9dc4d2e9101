package isa

import (
	"frustum/api"
	"frustum/fixed"
	"frustum/minifloat"
)

// fractionBits is the number of bits behind the point of a fixed-point number.
const fractionBits = 16

// shiftBits is the number of bits by which an int can be shifted at most, plus 1.
const shiftBits = 32

// Compute returns the result of a pure opcode, or 0 for other opcodes.
func Compute(op api.Opcode, a, b, c, imm int) int {
	switch classOf(op) {
	case constClass:
		return imm
	case unaryClass:
		return computeUnary(op, a)
	case binaryClass:
		return computeBinary(op, a, b)
	case selectClass:
		if a != 0 {
			return b
		}
		return c
	}
	return 0
}

// computeUnary is Compute of an opcode with one operand.
func computeUnary(op api.Opcode, a int) int {
	switch op {
	case api.Abs:
		return absolute(a)
	case api.AbsInt:
		return absoluteInt(fixed.Wrap(a))
	case api.Negate:
		return fixed.Sub(0, a)
	case api.NegateInt:
		return fixed.Wrap(-fixed.Wrap(a))
	case api.NotInt:
		return -fixed.Wrap(a) - 1
	case api.NotBool:
		return truth(a == 0)
	case api.Floor:
		return fixed.Floor(a)
	case api.Fract:
		return fixed.Fract(a)
	case api.Sqrt:
		return fixed.Sqrt(a)
	case api.Half:
		return minifloat.Quantize(minifloat.Half(), a)
	case api.FixedOfInt:
		return fixed.Saturate(fixed.Wrap(a) * api.One)
	case api.IntOfFixed:
		return fixed.Saturate(a) >> fractionBits
	case api.BoolOfInt:
		return truth(a != 0)
	}
	return a
}

// computeBinary is Compute of an opcode with two operands.
func computeBinary(op api.Opcode, a, b int) int {
	switch op {
	case api.Add:
		return fixed.Add(a, b)
	case api.Sub:
		return fixed.Sub(a, b)
	case api.Mul:
		return fixed.Mul(a, b)
	case api.Div:
		return fixed.Div(a, b)
	case api.Less:
		return truth(a < b)
	case api.LessEqual:
		return truth(a <= b)
	case api.Equal:
		return truth(a == b)
	case api.NotEqual:
		return truth(a != b)
	case api.Min:
		return min(a, b)
	case api.Max:
		return max(a, b)
	}
	return computeInts(op, fixed.Wrap(a), fixed.Wrap(b))
}

// computeInts is Compute of an opcode for two ints, which are wrapped.
func computeInts(op api.Opcode, a, b int) int {
	switch op {
	case api.AddInt:
		return fixed.Wrap(a + b)
	case api.SubInt:
		return fixed.Wrap(a - b)
	case api.MulInt:
		return fixed.Wrap(a * b)
	case api.DivInt, api.ModInt:
		return divide(op, a, b)
	case api.And:
		return a & b
	case api.Or:
		return a | b
	case api.Xor:
		return a ^ b
	case api.ShiftLeft:
		return fixed.Wrap(a << (b & (shiftBits - 1)))
	}
	return a >> (b & (shiftBits - 1))
}

// divide returns the quotient of two ints, truncated toward zero, or its remainder.
func divide(op api.Opcode, a, b int) int {
	switch {
	case b == 0:
		return 0
	case op == api.DivInt:
		return fixed.Wrap(a / b)
	}
	return a % b
}

// absolute returns the absolute value of a fixed-point number.
func absolute(a int) int {
	if a < 0 {
		return fixed.Sub(0, a)
	}
	return fixed.Saturate(a)
}

// absoluteInt returns the absolute value of an int, which is wrapped.
func absoluteInt(a int) int {
	if a < 0 {
		return fixed.Wrap(-a)
	}
	return a
}

// truth returns the value of a bool.
func truth(x bool) int {
	if x {
		return 1
	}
	return 0
}
