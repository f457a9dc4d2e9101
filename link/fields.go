package link

import (
	"frustum/api"
	"frustum/types"
)

// comparison compares the types of two modules.
type comparison struct {
	m, n api.Module
	// same tells of the structs that were compared before, by their names, whether they are the same. Without it, structs in structs would be compared again and again.
	same map[string]bool
}

// EqualFields returns the first index at which fields of two modules differ, or -1.
func EqualFields(m, n api.Module, a, b []api.Field) int {
	return comparison{m: m, n: n, same: map[string]bool{}}.difference(a, b)
}

// difference returns the first index at which fields differ, or -1.
func (c comparison) difference(a, b []api.Field) int {
	shorter := min(len(a), len(b))
	for i := range shorter {
		if a[i].Name != b[i].Name || !c.isSameType(a[i].Type, b[i].Type) {
			return i
		}
	}
	if len(a) != len(b) {
		return shorter
	}
	return noIndex
}

// isSameType reports whether types are the same in both modules.
func (c comparison) isSameType(t, u api.Type) bool {
	return t == u && (t.Kind != api.StructType || c.isSameStruct(t.Name))
}

// isSameStruct reports whether the first structs with a name have the same fields in both modules.
func (c comparison) isSameStruct(name string) bool {
	same, found := c.same[name]
	if found {
		return same
	}
	// A struct that is found in itself is nested without end, and not the same.
	c.same[name] = false
	i, j := types.FindStruct(c.m, name), types.FindStruct(c.n, name)
	if i >= 0 && j >= 0 {
		c.same[name] = c.difference(c.m.Structs[i].Fields, c.n.Structs[j].Fields) == noIndex
	}
	return c.same[name]
}
