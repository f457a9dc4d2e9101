package interpreter

import (
	"frustum/api"
	"frustum/types"
)

// maxComponents limits the components of a type, so that they are not counted without end.
const maxComponents = 1000

// value is the value of an expression, with as many components as its type has.
type value struct {
	t     api.Type
	parts []int
}

// variable is a name with its value.
type variable struct {
	name string
	value
}

// scalar returns a value with one component.
func scalar(kind api.TypeKind, x int) value {
	return value{api.Type{Kind: kind}, []int{x}}
}

// variablesOf returns variables for fields, with values that are brought into the ranges of their types.
func variablesOf(m api.Module, fields []api.Field, values []int) []variable {
	var variables []variable
	at := 0
	for _, f := range fields {
		parts := prepared(m, f.Type, behind(values, at))
		variables = append(variables, variable{f.Name, value{f.Type, parts}})
		at += len(parts)
	}
	return variables
}

// prepared returns the components of a type, brought into its range. Missing ones are 0.
func prepared(m api.Module, t api.Type, values []int) []int {
	i := types.FindStruct(m, t.Name)
	if t.Kind != api.StructType || i < 0 {
		return prepare(t.Kind, part(values, 0, types.Components(m, t)))
	}
	var parts []int
	for _, f := range m.Structs[i].Fields {
		// A struct can have far more components than its size tells.
		if len(parts) < maxComponents {
			parts = append(parts, prepared(m, f.Type, behind(values, len(parts)))...)
		}
	}
	return part(parts, 0, types.Components(m, t))
}

// part returns a number of values from an index on. Missing ones are 0.
func part(values []int, from, count int) []int {
	result := make([]int, count)
	copy(result, behind(values, from))
	return result
}

// behind returns the values from an index on, or none if there are fewer.
func behind(values []int, from int) []int {
	return values[min(from, len(values)):]
}
