package types

import (
	"slices"
	"strings"

	"frustum/api"
)

// maxInt is the largest integer of the shading language.
const maxInt = 1<<31 - 1

// view is what an expression can use: the globals of a module, and variables, of which the last one with a name counts.
type view struct {
	m         api.Module
	known     sizes
	variables []api.Field
}

// viewOf returns the view of the globals of a module.
func viewOf(m api.Module) view {
	return view{m: m, known: sizesOf(m)}
}

// ExprType returns the type of an expression in a scope.
func ExprType(m api.Module, scope []api.Field, e api.Expr) (api.Type, api.Errno) {
	v := viewOf(m)
	v.variables = scope
	return v.typeOf(e)
}

// typeOf returns the type of an expression.
func (v *view) typeOf(e api.Expr) (api.Type, api.Errno) {
	return v.typeFrom(e, func(i int) (api.Type, api.Errno) { return v.typeOf(e.Args[i]) })
}

// typeFrom returns the type of an expression from those of its arguments.
func (v *view) typeFrom(e api.Expr, argType func(i int) (api.Type, api.Errno)) (api.Type, api.Errno) {
	if !hasCount(e.Kind, len(e.Args)) {
		return api.Type{}, api.ErrKind
	}
	args := make([]api.Type, len(e.Args))
	for i := range args {
		if i == 0 && v.beginsWithName(e) {
			continue
		}
		t, code := argType(i)
		if code != api.OK {
			return api.Type{}, code
		}
		args[i] = t
	}
	return v.combine(e, args)
}

// hasCount reports whether expressions of a kind can have a number of arguments.
func hasCount(kind api.ExprKind, count int) bool {
	switch kind {
	case api.NumberExpr, api.IntExpr, api.BoolExpr, api.NameExpr:
		return count == 0
	case api.UnaryExpr, api.MemberExpr:
		return count == 1
	case api.BinaryExpr, api.IndexExpr:
		return count == 2
	}
	return kind == api.CallExpr
}

// combine returns the type of an expression whose arguments have these types.
func (v *view) combine(e api.Expr, args []api.Type) (api.Type, api.Errno) {
	switch e.Kind {
	case api.NumberExpr:
		return ofValue(e.Value, api.MaxValue, api.FixedType)
	case api.IntExpr:
		return ofValue(e.Value, maxInt, api.IntType)
	case api.BoolExpr:
		return ofValue(e.Value, 1, api.BoolType)
	case api.NameExpr:
		return v.nameType(e.Name)
	case api.UnaryExpr:
		return unaryType(e.Op, args[0])
	case api.BinaryExpr:
		return binaryType(e.Op, args[0], args[1])
	case api.CallExpr:
		return v.callType(e, args)
	case api.MemberExpr:
		return v.memberType(args[0], e.Name)
	}
	return ofKind(api.FixedType, IsVector(args[0]) && args[1].Kind == api.IntType)
}

// ofValue returns a type, if a value of it is within its range.
func ofValue(value, largest int, kind api.TypeKind) (api.Type, api.Errno) {
	if value < 0 || value > largest {
		return api.Type{}, api.ErrRange
	}
	return api.Type{Kind: kind}, api.OK
}

// ofKind returns the type of a kind, if the types of the arguments are right.
func ofKind(kind api.TypeKind, right bool) (api.Type, api.Errno) {
	return ofType(api.Type{Kind: kind}, right)
}

// ofType returns a type, if the types of the arguments are right.
func ofType(t api.Type, right bool) (api.Type, api.Errno) {
	if !right {
		return api.Type{}, api.ErrType
	}
	return t, api.OK
}

// nameType returns the type of a variable.
func (v *view) nameType(name string) (api.Type, api.Errno) {
	if i := v.findVariable(name); i >= 0 {
		return v.variables[i].Type, api.OK
	}
	for _, fields := range [][]api.Field{v.m.Uniforms, v.m.Inputs, v.m.Outputs} {
		if i := findField(fields, name); i >= 0 {
			return fields[i].Type, api.OK
		}
	}
	return api.Type{}, api.ErrName
}

// findVariable returns the index of the last variable with a name, or -1.
func (v *view) findVariable(name string) int {
	for i, variable := range slices.Backward(v.variables) {
		if variable.Name == name {
			return i
		}
	}
	return -1
}

// unaryType returns the type of a unary expression.
func unaryType(op api.Operator, t api.Type) (api.Type, api.Errno) {
	switch op {
	case api.OpNegate:
		return ofType(t, isNumber(t))
	case api.OpNot:
		return ofType(t, isBits(t))
	}
	return api.Type{}, api.ErrKind
}

// binaryType returns the type of a binary expression.
func binaryType(op api.Operator, a, b api.Type) (api.Type, api.Errno) {
	switch op {
	case api.OpAdd, api.OpSub:
		return ofType(a, a == b && isNumber(a))
	case api.OpMul, api.OpDiv:
		return ofType(a, a == b && isNumber(a) || IsVector(a) && b.Kind == api.FixedType)
	case api.OpMod, api.OpShiftLeft, api.OpShiftRight:
		return ofKind(api.IntType, a.Kind == api.IntType && b.Kind == api.IntType)
	case api.OpAnd, api.OpOr, api.OpXor:
		return ofType(a, a == b && isBits(a))
	case api.OpLess, api.OpLessEqual, api.OpGreater, api.OpGreaterEqual:
		return ofKind(api.BoolType, a == b && isNumber(a) && IsScalar(a))
	case api.OpEqual, api.OpNotEqual:
		return ofKind(api.BoolType, a == b && a.Kind != api.StructType)
	}
	return api.Type{}, api.ErrKind
}

// memberType returns the type of a member of a value.
func (v *view) memberType(t api.Type, name string) (api.Type, api.Errno) {
	switch {
	case IsVector(t):
		if i := strings.Index("xyzw", name); len(name) != 1 || i < 0 || i >= vectorSize(t.Kind) {
			return api.Type{}, api.ErrName
		}
		return api.Type{Kind: api.FixedType}, api.OK
	case t.Kind == api.StructType:
		return v.fieldType(t.Name, name)
	}
	return api.Type{}, api.ErrType
}

// fieldType returns the type of a field of a struct.
func (v *view) fieldType(structName, name string) (api.Type, api.Errno) {
	if s := FindStruct(v.m, structName); s >= 0 {
		fields := v.m.Structs[s].Fields
		if i := findField(fields, name); i >= 0 {
			return fields[i].Type, api.OK
		}
	}
	return api.Type{}, api.ErrName
}

// isNumber reports whether a type is fixed, half, int or a vector.
func isNumber(t api.Type) bool {
	return IsVector(t) || IsScalar(t) && t.Kind != api.BoolType
}

// isBits reports whether a type is int or bool.
func isBits(t api.Type) bool {
	return t.Kind == api.IntType || t.Kind == api.BoolType
}
