package interpreter

import (
	"slices"

	"frustum/api"
	"frustum/fixed"
)

// Call returns the value of a built-in function of numbers for arguments of which the first one has a type, or nil if it does not take them.
func Call(name string, t api.Type, args [][]int) []int {
	count := numberArguments(name)
	if count == 0 || len(args) != count {
		return nil
	}
	argTypes := slices.Repeat([]api.Type{t}, count)
	if name == "mix" {
		argTypes[2] = api.Type{Kind: api.FixedType}
	}
	if !takes(api.Expr{Kind: api.CallExpr, Name: name}, argTypes, args) {
		return nil
	}
	return builtin(name, t.Kind, args)
}

// numberArguments returns the number of arguments of a built-in function of numbers, or 0 if there is none with this name.
func numberArguments(name string) int {
	switch name {
	case "abs", "floor", "fract", "sqrt":
		return 1
	case "min", "max", "dot":
		return 2
	case "clamp", "mix":
		return 3
	}
	return 0
}

// builtin is Call of arguments that the function takes, where the first one has this kind.
func builtin(name string, kind api.TypeKind, args [][]int) []int {
	prepared := make([][]int, len(args))
	for i, arg := range args {
		prepared[i] = prepare(kind, arg)
	}
	if name == "dot" {
		return []int{dot(prepared[0], prepared[1])}
	}
	result := make([]int, len(args[0]))
	for i := range result {
		var x []int
		for _, arg := range prepared {
			x = append(x, component(arg, i))
		}
		result[i] = rounded(kind, apply(name, kind, x))
	}
	return result
}

// dot returns the sum of the products of the components.
func dot(x, y []int) int {
	sum := 0
	for i := range x {
		sum = fixed.Add(sum, fixed.Mul(x[i], y[i]))
	}
	return sum
}

// apply returns a component of the value of a built-in function for those of its arguments, without the rounding of half numbers.
func apply(name string, kind api.TypeKind, x []int) int {
	switch name {
	case "min":
		return min(x[0], x[1])
	case "max":
		return max(x[0], x[1])
	case "clamp":
		return min(max(x[0], x[1]), x[2])
	case "abs":
		return absolute(kind, x[0])
	case "floor":
		return fixed.Floor(x[0])
	case "fract":
		return fixed.Fract(x[0])
	case "sqrt":
		return fixed.Sqrt(x[0])
	}
	return fixed.Lerp(x[0], x[1], x[2])
}

// absolute returns the absolute value of a number.
func absolute(kind api.TypeKind, x int) int {
	if x < 0 {
		return negate(kind, x)
	}
	return x
}

// isOfResource reports whether the first argument of a built-in function is the name of a texture, a buffer or an input.
func isOfResource(name string) bool {
	switch name {
	case "sample", "fetch", "load", "ddx", "ddy":
		return true
	}
	return false
}
