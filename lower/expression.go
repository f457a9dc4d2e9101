package lower

import (
	"strings"

	"frustum/api"
	"frustum/types"
)

// eval generates the code of an expression. The value of a variable is in its own registers.
func (g *generator) eval(e api.Expr) value {
	switch e.Kind {
	case api.NumberExpr:
		return g.scalar(api.FixedType, g.constant(e.Value))
	case api.IntExpr:
		return g.scalar(api.IntType, g.constant(e.Value))
	case api.BoolExpr:
		return g.scalar(api.BoolType, g.constant(e.Value))
	case api.NameExpr:
		return g.find(e.Name)
	case api.UnaryExpr:
		return g.unary(e.Op, g.eval(e.Args[0]))
	case api.BinaryExpr:
		return g.binary(e.Op, g.eval(e.Args[0]), g.eval(e.Args[1]))
	case api.CallExpr:
		return g.call(e)
	case api.MemberExpr:
		return g.member(g.eval(e.Args[0]), e.Name)
	}
	return g.element(g.eval(e.Args[0]), g.eval(e.Args[1]))
}

// scalar returns a value with one component.
func (g *generator) scalar(kind api.TypeKind, register int) value {
	return value{api.Type{Kind: kind}, []int{register}}
}

// rounded returns a register with a result that half numbers may not hold exactly.
func (g *generator) rounded(kind api.TypeKind, register int) int {
	if kind == api.HalfType {
		return g.compute(api.Half, register)
	}
	return register
}

// unary generates the code of a unary operator.
func (g *generator) unary(op api.Operator, x value) value {
	opcode := unaryOpcode(op, x.t.Kind)
	return value{x.t, each(len(x.registers), func(i int) int {
		return g.rounded(x.t.Kind, g.compute(opcode, x.registers[i]))
	})}
}

// binary generates the code of a binary operator.
func (g *generator) binary(op api.Operator, x, y value) value {
	if api.OpLess <= op && op <= api.OpNotEqual {
		return g.scalar(api.BoolType, g.compare(op, x.registers, y.registers))
	}
	opcode := binaryOpcode(op, x.t.Kind)
	return value{x.t, each(len(x.registers), func(i int) int {
		return g.rounded(x.t.Kind, g.compute(opcode, x.registers[i], component(y, i)))
	})}
}

// component returns the register of a component of an operand. A fixed operand beside a vector has it for all of them.
func component(x value, i int) int {
	return x.registers[min(i, len(x.registers)-1)]
}

// compare generates the code of a comparison.
func (g *generator) compare(op api.Operator, x, y []int) int {
	switch op {
	case api.OpLess:
		return g.compute(api.Less, x[0], y[0])
	case api.OpLessEqual:
		return g.compute(api.LessEqual, x[0], y[0])
	case api.OpGreater:
		return g.compute(api.Less, y[0], x[0])
	case api.OpGreaterEqual:
		return g.compute(api.LessEqual, y[0], x[0])
	case api.OpNotEqual:
		return g.compute(api.NotBool, g.equal(x, y))
	}
	return g.equal(x, y)
}

// equal returns a register that tells whether all components are equal.
func (g *generator) equal(x, y []int) int {
	result := g.compute(api.Equal, x[0], y[0])
	for i := 1; i < len(x); i++ {
		result = g.compute(api.And, result, g.compute(api.Equal, x[i], y[i]))
	}
	return result
}

// member returns a member of a vector or a struct.
func (g *generator) member(x value, name string) value {
	if types.IsVector(x.t) {
		return g.scalar(api.FixedType, x.registers[strings.Index("xyzw", name)])
	}
	from, t, _ := types.Offset(g.m, g.m.Structs[types.FindStruct(g.m, x.t.Name)].Fields, name)
	return value{t, x.registers[from : from+types.Components(g.m, t)]}
}

// element generates the code of an index, which is 0 if it is out of range.
func (g *generator) element(vector, index value) value {
	result := g.constant(0)
	for i, register := range vector.registers {
		result = g.compute(api.Select, g.isIndex(index, i), register, result)
	}
	return g.scalar(api.FixedType, result)
}

// isIndex returns a register that tells whether an index is that of a component.
func (g *generator) isIndex(index value, i int) int {
	return g.compute(api.Equal, index.registers[0], g.constant(i))
}

// unaryOpcode returns the opcode of a unary operator for operands of a kind.
func unaryOpcode(op api.Operator, kind api.TypeKind) api.Opcode {
	switch {
	case op == api.OpNot && kind == api.BoolType:
		return api.NotBool
	case op == api.OpNot:
		return api.NotInt
	case kind == api.IntType:
		return api.NegateInt
	}
	return api.Negate
}

// binaryOpcode returns the opcode of a binary operator that is no comparison for operands of which the first one has a kind.
func binaryOpcode(op api.Operator, kind api.TypeKind) api.Opcode {
	if kind == api.IntType || kind == api.BoolType {
		return intOpcode(op)
	}
	switch op {
	case api.OpAdd:
		return api.Add
	case api.OpSub:
		return api.Sub
	case api.OpMul:
		return api.Mul
	}
	return api.Div
}

// intOpcode returns the opcode of an operator for two ints, or for two bools, which are ints with one bit.
func intOpcode(op api.Operator) api.Opcode {
	switch op {
	case api.OpAdd:
		return api.AddInt
	case api.OpSub:
		return api.SubInt
	case api.OpMul:
		return api.MulInt
	case api.OpDiv:
		return api.DivInt
	case api.OpMod:
		return api.ModInt
	case api.OpAnd:
		return api.And
	case api.OpOr:
		return api.Or
	case api.OpXor:
		return api.Xor
	case api.OpShiftLeft:
		return api.ShiftLeft
	}
	return api.ShiftRight
}
