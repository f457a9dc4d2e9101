package interpreter

import (
	"slices"
	"strconv"

	"frustum/api"
	"frustum/fixed"
	"frustum/minifloat"
	"frustum/types"
)

// shiftBits is the number of bits by which an int can be shifted at most, plus 1.
const shiftBits = 32

// Unary returns the value of an operator for an operand of a type, or nil if the operator does not take it.
func Unary(op api.Operator, t api.Type, x []int) []int {
	e := api.Expr{Kind: api.UnaryExpr, Op: op}
	if hasWrongName(t) || !takes(e, []api.Type{t}, [][]int{x}) {
		return nil
	}
	return unary(op, t.Kind, x)
}

// Binary returns the value of an operator for operands of two types, or nil if the operator does not take them.
func Binary(op api.Operator, t, u api.Type, x, y []int) []int {
	e := api.Expr{Kind: api.BinaryExpr, Op: op}
	if hasWrongName(t) || hasWrongName(u) || !takes(e, []api.Type{t, u}, [][]int{x, y}) {
		return nil
	}
	return binary(op, t.Kind, x, y)
}

// hasWrongName reports whether a type that is not a struct has a name.
func hasWrongName(t api.Type) bool {
	return t.Kind != api.StructType && t.Name != ""
}

// takes reports whether an expression has a type if its arguments have these types, and whether the operands have as many components as these.
func takes(e api.Expr, argTypes []api.Type, operands [][]int) bool {
	// The arguments are variables, whose values do not matter for the type.
	var scope []api.Field
	for i, t := range argTypes {
		if len(operands[i]) != types.Components(api.Module{}, t) {
			return false
		}
		name := strconv.Itoa(i)
		scope = append(scope, api.Field{Name: name, Type: t})
		e.Args = append(e.Args, api.Expr{Kind: api.NameExpr, Name: name})
	}
	_, code := types.ExprType(api.Module{}, scope, e)
	return code == api.OK
}

// prepare returns the components of a scalar or a vector, brought into the range of their kind.
func prepare(kind api.TypeKind, x []int) []int {
	result := make([]int, len(x))
	for i, n := range x {
		switch kind {
		case api.IntType:
			result[i] = fixed.Wrap(n)
		case api.BoolType:
			result[i] = truth(n != 0)
		default:
			result[i] = fixed.Saturate(n)
		}
	}
	return result
}

// rounded returns the result of an operation, which half numbers cannot hold exactly.
func rounded(kind api.TypeKind, x int) int {
	if kind == api.HalfType {
		return minifloat.Quantize(minifloat.Half(), x)
	}
	return x
}

// truth returns the value of a bool.
func truth(x bool) int {
	if x {
		return 1
	}
	return 0
}

// unary is Unary of an operand that the operator takes.
func unary(op api.Operator, kind api.TypeKind, x []int) []int {
	result := prepare(kind, x)
	for i, n := range result {
		switch {
		case op == api.OpNegate:
			result[i] = rounded(kind, negate(kind, n))
		case kind == api.BoolType:
			result[i] = 1 - n
		default:
			result[i] = -n - 1
		}
	}
	return result
}

// negate returns the negation of a number, without the rounding of half numbers.
func negate(kind api.TypeKind, x int) int {
	if kind == api.IntType {
		return fixed.Wrap(-x)
	}
	return fixed.Sub(0, x)
}

// binary is Binary of operands that the operator takes, where the first one has this kind.
func binary(op api.Operator, kind api.TypeKind, x, y []int) []int {
	x, y = prepare(kind, x), prepare(kind, y)
	if isComparison(op) {
		return []int{truth(compare(op, x, y))}
	}
	result := make([]int, len(x))
	for i, n := range x {
		result[i] = rounded(kind, combine(op, kind, n, component(y, i)))
	}
	return result
}

// component returns a component of an operand. A fixed operand beside a vector has it for all of them.
func component(x []int, i int) int {
	return x[min(i, len(x)-1)]
}

// isComparison reports whether the value of an operator is a bool for operands of all types.
func isComparison(op api.Operator) bool {
	return api.OpLess <= op && op <= api.OpNotEqual
}

// compare returns the value of a comparison.
func compare(op api.Operator, x, y []int) bool {
	switch op {
	case api.OpEqual:
		return slices.Equal(x, y)
	case api.OpNotEqual:
		return !slices.Equal(x, y)
	case api.OpLess:
		return x[0] < y[0]
	case api.OpLessEqual:
		return x[0] <= y[0]
	case api.OpGreater:
		return x[0] > y[0]
	}
	return x[0] >= y[0]
}

// combine returns a component of the value of an operator that is no comparison, without the rounding of half numbers.
func combine(op api.Operator, kind api.TypeKind, x, y int) int {
	if kind == api.IntType || kind == api.BoolType {
		return combineInts(op, x, y)
	}
	switch op {
	case api.OpAdd:
		return fixed.Add(x, y)
	case api.OpSub:
		return fixed.Sub(x, y)
	case api.OpMul:
		return fixed.Mul(x, y)
	}
	return fixed.Div(x, y)
}

// combineInts returns the value of an operator for two ints, or for two bools, which are ints with one bit.
func combineInts(op api.Operator, x, y int) int {
	switch op {
	case api.OpAdd:
		return fixed.Wrap(x + y)
	case api.OpSub:
		return fixed.Wrap(x - y)
	case api.OpMul:
		return fixed.Wrap(x * y)
	case api.OpDiv, api.OpMod:
		return divide(op, x, y)
	case api.OpAnd:
		return x & y
	case api.OpOr:
		return x | y
	case api.OpXor:
		return x ^ y
	case api.OpShiftLeft:
		return fixed.Wrap(x << (y & (shiftBits - 1)))
	}
	return x >> (y & (shiftBits - 1))
}

// divide returns the quotient of two ints, truncated toward zero, or its remainder.
func divide(op api.Operator, x, y int) int {
	switch {
	case y == 0:
		return 0
	case op == api.OpDiv:
		return fixed.Wrap(x / y)
	}
	return x % y
}
