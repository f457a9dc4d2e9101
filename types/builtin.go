package types

import (
	"slices"

	"frustum/api"
)

// isBuiltin reports whether a name is that of a built-in function.
func isBuiltin(name string) bool {
	return builtinCount(name) > 0
}

// takesName reports whether the first argument of a built-in function is the name of a texture, a buffer or an input.
func takesName(name string) bool {
	switch name {
	case "sample", "fetch", "load", "ddx", "ddy":
		return true
	}
	return false
}

// isDerivative reports whether a built-in function is one of fragment shaders.
func isDerivative(name string) bool {
	return name == "ddx" || name == "ddy"
}

// builtinCount returns the number of arguments of a built-in function, or 0 if there is none with this name.
func builtinCount(name string) int {
	switch name {
	case "abs", "floor", "fract", "sqrt", "ddx", "ddy":
		return 1
	case "min", "max", "dot", "load":
		return 2
	case "clamp", "mix", "sample":
		return 3
	case "fetch":
		return 4
	}
	return 0
}

// builtinType returns the type of a call of a built-in function.
func (v *view) builtinType(e api.Expr, args []api.Type) (api.Type, api.Errno) {
	switch {
	case len(args) > 0 && takesName(e.Name) && !v.isResource(e.Name, e.Args[0]):
		return api.Type{}, api.ErrName
	case len(args) != builtinCount(e.Name):
		return api.Type{}, api.ErrCount
	case isDerivative(e.Name):
		return v.derivativeType(e.Args[0].Name)
	case takesName(e.Name):
		return resourceType(e.Name, args[1:])
	}
	return mathType(e.Name, args)
}

// isResource reports whether an expression is the name of what a built-in function takes.
func (v *view) isResource(function string, e api.Expr) bool {
	if e.Kind != api.NameExpr || len(e.Args) > 0 {
		return false
	}
	switch function {
	case "sample", "fetch":
		return slices.Contains(v.m.Textures, e.Name)
	case "load":
		return slices.Contains(v.m.Buffers, e.Name)
	}
	// A variable with the same name hides an input.
	return v.findVariable(e.Name) < 0 && findField(v.m.Inputs, e.Name) >= 0
}

// derivativeType returns the type of a derivative of an input.
func (v *view) derivativeType(input string) (api.Type, api.Errno) {
	t := v.m.Inputs[findField(v.m.Inputs, input)].Type
	switch {
	case !isFixedOrVector(t):
		return api.Type{}, api.ErrType
	case v.m.Stage != api.FragmentStage:
		return api.Type{}, api.ErrKind
	}
	return t, api.OK
}

// resourceType returns the type of what is read from a texture or a buffer.
func resourceType(function string, args []api.Type) (api.Type, api.Errno) {
	isInt := func(t api.Type) bool { return t.Kind == api.IntType }
	switch function {
	case "sample":
		return ofKind(api.Vec4Type, args[0].Kind == api.Vec2Type && args[1].Kind == api.FixedType)
	case "fetch":
		return ofKind(api.Vec4Type, isInt(args[0]) && isInt(args[1]) && isInt(args[2]))
	}
	return ofKind(api.IntType, isInt(args[0]))
}

// mathType returns the type of a built-in function of values, which has the right number of arguments.
func mathType(function string, args []api.Type) (api.Type, api.Errno) {
	first := args[0]
	equal := !slices.ContainsFunc(args, func(t api.Type) bool { return t != first })
	switch function {
	case "floor", "fract", "sqrt":
		return ofKind(api.FixedType, first.Kind == api.FixedType)
	case "dot":
		return ofKind(api.FixedType, equal && IsVector(first))
	case "mix":
		return ofType(first, first == args[1] && isFixedOrVector(first) && args[2].Kind == api.FixedType)
	}
	return ofType(first, equal && isNumber(first))
}
