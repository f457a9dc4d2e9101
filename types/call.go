package types

import (
	"slices"

	"frustum/api"
	"frustum/lexer"
)

// callee is what the name of a call stands for.
type callee int

// What a name can stand for, in the order in which it is tried.
const (
	unknownCallee callee = iota
	typeCallee
	structCallee
	builtinCallee
	functionCallee
)

// calleeOf returns what the name of a call stands for.
func (v *view) calleeOf(name string) callee {
	switch {
	case lexer.IsTypeWord(name):
		return typeCallee
	case FindStruct(v.m, name) >= 0:
		return structCallee
	case isBuiltin(name):
		return builtinCallee
	case FindFunction(v.m, name) >= 0:
		return functionCallee
	}
	return unknownCallee
}

// beginsWithName reports whether an expression is a call with a texture, a buffer or an input as its first argument, which is no expression.
func (v *view) beginsWithName(e api.Expr) bool {
	return e.Kind == api.CallExpr && takesName(e.Name) && v.calleeOf(e.Name) == builtinCallee
}

// callType returns the type of a call whose arguments have these types.
func (v *view) callType(e api.Expr, args []api.Type) (api.Type, api.Errno) {
	switch v.calleeOf(e.Name) {
	case typeCallee:
		return v.constructorType(e.Name, args)
	case structCallee:
		fields := v.m.Structs[FindStruct(v.m, e.Name)].Fields
		return ofFields(api.Type{Kind: api.StructType, Name: e.Name}, fields, args)
	case builtinCallee:
		return v.builtinType(e, args)
	case functionCallee:
		f := v.m.Functions[FindFunction(v.m, e.Name)]
		return ofFields(f.Result, f.Params, args)
	}
	return api.Type{}, api.ErrName
}

// ofFields returns a type, if there is an argument of the right type for each field.
func ofFields(t api.Type, fields []api.Field, args []api.Type) (api.Type, api.Errno) {
	if len(args) != len(fields) {
		return api.Type{}, api.ErrCount
	}
	return ofType(t, slices.EqualFunc(args, fields, func(arg api.Type, f api.Field) bool { return arg == f.Type }))
}

// constructorType returns the type of a call with a type word.
func (v *view) constructorType(word string, args []api.Type) (api.Type, api.Errno) {
	switch word {
	case "vec2":
		return v.vectorType(api.Vec2Type, args)
	case "vec3":
		return v.vectorType(api.Vec3Type, args)
	case "vec4":
		return v.vectorType(api.Vec4Type, args)
	}
	if len(args) != 1 {
		return api.Type{}, api.ErrCount
	}
	from := args[0].Kind
	switch word {
	case "fixed":
		return ofKind(api.FixedType, from == api.IntType || from == api.HalfType || from == api.BoolType)
	case "half":
		return ofKind(api.HalfType, from == api.FixedType)
	case "int":
		return ofKind(api.IntType, from == api.FixedType || from == api.BoolType)
	}
	return ofKind(api.BoolType, from == api.IntType)
}

// vectorType returns the type of the vectors of a kind, if the arguments have as many components.
func (v *view) vectorType(kind api.TypeKind, args []api.Type) (api.Type, api.Errno) {
	count := 0
	for _, arg := range args {
		count += v.known.of(arg)
	}
	if count != vectorSize(kind) {
		return api.Type{}, api.ErrCount
	}
	return ofKind(kind, !slices.ContainsFunc(args, func(arg api.Type) bool { return !isFixedOrVector(arg) }))
}

// isFixedOrVector reports whether a type is fixed or a vector.
func isFixedOrVector(t api.Type) bool {
	return t.Kind == api.FixedType || IsVector(t)
}
