package compiler

import (
	"slices"

	"frustum/api"
	"frustum/fixed"
	"frustum/minifloat"
	"frustum/types"
)

// maxComponents limits the components of fields, as in package types.
const maxComponents = 1000

// layouts are the kinds of the components of the structs of a module, by their names. The kind of a component of a vector is that of the vector.
type layouts map[string][]api.TypeKind

// Prepare returns the values of all components of fields, brought into the ranges of their types. Missing ones are 0.
func Prepare(m api.Module, fields []api.Field, values []int) []int {
	kinds := layoutsOf(m).ofFields(fields)
	prepared := make([]int, len(kinds))
	for i, kind := range kinds[:min(len(kinds), len(values))] {
		prepared[i] = inRange(kind, values[i])
	}
	return prepared
}

// preparedInputs returns the inputs of a module, and in a fragment shader their derivatives, brought into the ranges of their types.
func preparedInputs(m api.Module, inputs []int) []int {
	lists := 1
	if m.Stage == api.FragmentStage {
		lists = 3
	}
	var all []int
	for range lists {
		list := Prepare(m, m.Inputs, inputs)
		all = append(all, list...)
		inputs = inputs[min(len(list), len(inputs)):]
	}
	return all
}

// layoutsOf returns the layouts of the structs of a module.
func layoutsOf(m api.Module) layouts {
	known := layouts{}
	for _, s := range m.Structs {
		// Only the structs before this one are known, so that its fields can use no others.
		kinds := known.ofFields(s.Fields)
		if _, found := known[s.Name]; !found {
			known[s.Name] = kinds
		}
	}
	return known
}

// ofFields returns the kinds of the components of fields, as far as there may be so many.
func (known layouts) ofFields(fields []api.Field) []api.TypeKind {
	var kinds []api.TypeKind
	for _, f := range fields {
		kinds = append(kinds, known.ofType(f.Type)...)
		if len(kinds) >= maxComponents {
			return kinds[:maxComponents]
		}
	}
	return kinds
}

// ofType returns the kinds of the components of a type.
func (known layouts) ofType(t api.Type) []api.TypeKind {
	if t.Kind == api.StructType {
		return known[t.Name]
	}
	return slices.Repeat([]api.TypeKind{t.Kind}, types.Components(api.Module{}, t))
}

// inRange returns the number in the range of a kind for any number.
func inRange(kind api.TypeKind, x int) int {
	switch kind {
	case api.HalfType:
		return minifloat.Quantize(minifloat.Half(), x)
	case api.IntType:
		return fixed.Wrap(x)
	case api.BoolType:
		if x != 0 {
			return 1
		}
		return 0
	}
	return fixed.Saturate(x)
}
