package compiler_test

import (
	"fmt"
	"math"
	"slices"
	"testing"

	"frustum/api"
	"frustum/compiler"
	"frustum/types"
)

// Numbers that Prepare must bring into the ranges of the types, and what becomes of them; halfOf is the value of a half.
var (
	numbers = []int{0, 1, -1, 2, one, -one, 2049 * one, 2047*one + 1, -2051 * one, api.MaxValue - 1, api.MaxValue, api.MaxValue + 1, -api.MaxValue, -api.MaxValue - 1, high, high + 1, low, low - 1, 1 << 32, 1<<32 + 5, -1 << 32, 1<<40 + 3, math.MaxInt, math.MinInt}
	fixedOf = []int{0, 1, -1, 2, one, -one, 2049 * one, 2047*one + 1, -2051 * one, api.MaxValue - 1, api.MaxValue, api.MaxValue, -api.MaxValue, -api.MaxValue, api.MaxValue, api.MaxValue, -api.MaxValue, -api.MaxValue, api.MaxValue, api.MaxValue, -api.MaxValue, api.MaxValue, api.MaxValue, -api.MaxValue}
	halfOf  = []int{0, 1, -1, 2, one, -one, 2048 * one, 2047 * one, -2052 * one, api.MaxValue, api.MaxValue, api.MaxValue, -api.MaxValue, -api.MaxValue, api.MaxValue, api.MaxValue, -api.MaxValue, -api.MaxValue, api.MaxValue, api.MaxValue, -api.MaxValue, api.MaxValue, api.MaxValue, -api.MaxValue}
	intOf   = []int{0, 1, -1, 2, one, -one, 2049 * one, 2047*one + 1, -2051 * one, api.MaxValue - 1, api.MaxValue, api.MaxValue + 1, -api.MaxValue, -api.MaxValue - 1, high, low, low, high, 0, 5, 0, 3, -1, 0}
	boolOf  = []int{0, 1, 1, 1, 1, 1, 1, 1, 1, 1, 1, 1, 1, 1, 1, 1, 1, 1, 1, 1, 1, 1, 1, 1}
)

// of returns a field of a kind, or of a struct.
func of(kind api.TypeKind, name string) api.Field {
	return api.Field{Name: "a", Type: api.Type{Kind: kind, Name: name}}
}

func checkPrepare(t *testing.T, m api.Module, fields []api.Field, values, want []int) {
	t.Helper()
	before, list := slices.Clone(values), slices.Clone(fields)
	got := compiler.Prepare(m, fields, values)
	if !slices.Equal(got, want) {
		t.Errorf("%v of the fields %v are %v, want %v", values, fields, got, want)
	}
	if total := types.Total(m, fields); len(got) != total {
		t.Errorf("the fields %v have %d values, want %d", fields, len(got), total)
	}
	if !slices.Equal(values, before) || !slices.Equal(fields, list) {
		t.Error("Prepare changed its arguments")
	}
}

func TestP27_2Ranges(t *testing.T) {
	for i, x := range numbers {
		for kind, want := range map[api.TypeKind]int{api.FixedType: fixedOf[i], api.HalfType: halfOf[i], api.IntType: intOf[i], api.BoolType: boolOf[i]} {
			checkPrepare(t, api.Module{}, []api.Field{of(kind, "")}, []int{x}, []int{want})
			// A name does not change the kind.
			checkPrepare(t, api.Module{}, []api.Field{of(kind, "S")}, []int{x}, []int{want})
		}
		for kind, size := range map[api.TypeKind]int{api.Vec2Type: 2, api.Vec3Type: 3, api.Vec4Type: 4} {
			for place := range size {
				values, want := make([]int, size), make([]int, size)
				values[place], want[place] = x, fixedOf[i]
				checkPrepare(t, api.Module{}, []api.Field{of(kind, "")}, values, want)
			}
		}
	}
}

func TestP27_2Fields(t *testing.T) {
	m := api.Module{Structs: []api.Struct{
		{Name: "A", Fields: []api.Field{of(api.IntType, ""), of(api.Vec2Type, "")}}, {Name: "B", Fields: []api.Field{of(api.BoolType, ""), of(api.StructType, "A"), of(api.HalfType, "")}}, {Name: "Empty"},
		// Structs with fields of structs that are not declared before, or are the same.
		{Name: "C", Fields: []api.Field{of(api.StructType, "D"), of(api.IntType, ""), of(api.StructType, "C"), of(api.StructType, "Missing"), of(api.StructType, "Empty")}}, {Name: "D", Fields: []api.Field{of(api.BoolType, ""), of(api.StructType, "C")}},
		// A second struct with a name does not count.
		{Name: "A", Fields: []api.Field{of(api.BoolType, "")}}, {Name: "E", Fields: []api.Field{of(api.StructType, "A")}},
	}}
	huge := 1<<40 + 3
	list := func(fields ...api.Field) []api.Field { return fields }
	for _, c := range []struct {
		fields       []api.Field
		values, want []int
	}{
		{nil, nil, nil}, {nil, []int{1, 2}, nil}, {list(), []int{}, nil}, {list(of(api.IntType, "")), nil, []int{0}}, {list(of(api.Vec3Type, "")), []int{huge}, []int{api.MaxValue, 0, 0}}, {list(of(api.IntType, "")), []int{huge, 4, 5}, []int{3}},
		{list(of(api.IntType, ""), of(api.BoolType, ""), of(api.FixedType, "")), []int{huge, huge, huge}, []int{3, 1, api.MaxValue}}, {list(of(api.BoolType, ""), of(api.Vec2Type, ""), of(api.HalfType, ""), of(api.IntType, "")), []int{-5, huge, -huge, huge, huge}, []int{1, api.MaxValue, -api.MaxValue, api.MaxValue, 3}},
		{list(of(api.StructType, "A")), []int{huge, huge, huge, huge}, []int{3, api.MaxValue, api.MaxValue}}, {list(of(api.StructType, "B")), []int{huge, huge, huge, huge, 2049 * one}, []int{1, 3, api.MaxValue, api.MaxValue, 2048 * one}}, {list(of(api.StructType, "B")), []int{huge, huge}, []int{1, 3, 0, 0, 0}},
		{list(of(api.StructType, "Empty"), of(api.IntType, "")), []int{huge}, []int{3}}, {list(of(api.StructType, "Missing"), of(api.BoolType, "")), []int{huge}, []int{1}}, {list(of(api.StructType, "")), []int{huge}, nil}, {list(of(0, ""), of(9, "A"), of(-1, ""), of(math.MaxInt, ""), of(math.MinInt, ""), of(api.IntType, "")), []int{huge}, []int{3}},
		{list(of(api.StructType, "C")), []int{huge, huge, huge}, []int{3}}, {list(of(api.StructType, "D")), []int{huge, huge, huge}, []int{1, 3}}, {list(of(api.StructType, "E"), of(api.StructType, "A")), []int{huge, huge, huge, huge, 5, 6}, []int{3, api.MaxValue, api.MaxValue, 3, 5, 6}},
	} {
		checkPrepare(t, m, c.fields, c.values, c.want)
	}
}

// TestP27_2Limit has fields with as many components as Total counts, and more.
func TestP27_2Limit(t *testing.T) {
	values := slices.Repeat([]int{1<<40 + 3}, 1100)
	for _, count := range []int{998, 999, 1000, 1001, 1100} {
		fields := slices.Repeat([]api.Field{of(api.IntType, "")}, count)
		checkPrepare(t, api.Module{}, fields, values, slices.Repeat([]int{3}, min(count, 1000)))
		// The last field is cut off.
		want := append(slices.Repeat([]int{3}, count), api.MaxValue, api.MaxValue, api.MaxValue)
		checkPrepare(t, api.Module{}, append(fields, of(api.Vec3Type, "")), values, want[:min(len(want), 1000)])
		m := api.Module{Structs: []api.Struct{{Name: "A", Fields: fields}, {Name: "B", Fields: []api.Field{of(api.BoolType, ""), of(api.StructType, "A"), of(api.FixedType, "")}}}}
		want = append(append([]int{1}, slices.Repeat([]int{3}, min(count, 1000))...), api.MaxValue, 1)
		checkPrepare(t, m, []api.Field{of(api.StructType, "B"), of(api.BoolType, "")}, values, want[:min(len(want), 1000)])
	}
	// Structs whose sizes grow as powers of two, with and without components.
	m := api.Module{Structs: []api.Struct{{Name: "S0", Fields: []api.Field{of(api.IntType, "")}}, {Name: "Z0"}}}
	for i := range 100 {
		for _, letter := range []string{"S", "Z"} {
			inner := of(api.StructType, fmt.Sprint(letter, i))
			m.Structs = append(m.Structs, api.Struct{Name: fmt.Sprint(letter, i+1), Fields: []api.Field{inner, inner}})
		}
	}
	checkPrepare(t, m, []api.Field{of(api.StructType, "Z100"), of(api.StructType, "S9"), of(api.StructType, "Z50")}, values, slices.Repeat([]int{3}, 512))
	checkPrepare(t, m, []api.Field{of(api.StructType, "S100"), of(api.BoolType, "")}, values, slices.Repeat([]int{3}, 1000))
}

// kindsOf is a second reading of P27.2: it looks up the struct of a type among those declared before an index.
func kindsOf(m api.Module, before int, t api.Type) []api.TypeKind {
	switch t.Kind {
	case api.FixedType, api.HalfType, api.IntType, api.BoolType:
		return []api.TypeKind{t.Kind}
	case api.Vec2Type, api.Vec3Type, api.Vec4Type:
		return slices.Repeat([]api.TypeKind{api.FixedType}, int(t.Kind)-3)
	case api.StructType:
		i := types.FindStruct(m, t.Name)
		if i < 0 || i >= before {
			return nil
		}
		var kinds []api.TypeKind
		for _, f := range m.Structs[i].Fields {
			kinds = append(kinds, kindsOf(m, i, f.Type)...)
		}
		return kinds
	}
	return nil
}

// expectedPrepare returns the values of fields with fewer than 1000 components.
func expectedPrepare(m api.Module, fields []api.Field, values []int) []int {
	var list []int
	for _, f := range fields {
		for _, kind := range kindsOf(m, len(m.Structs), f.Type) {
			x := 0
			if len(list) < len(values) {
				x = values[len(list)]
			}
			place := slices.Index(numbers, x)
			list = append(list, map[api.TypeKind][]int{api.FixedType: fixedOf, api.HalfType: halfOf, api.IntType: intOf, api.BoolType: boolOf}[kind][place])
		}
	}
	return list
}

func TestP27_2Arbitrary(t *testing.T) {
	s := state{seed: 1}
	fields := func(most int) []api.Field {
		list := make([]api.Field, s.next(most+1))
		for i := range list {
			list[i] = of(api.TypeKind(s.next(10)), []string{"A", "B", "C", "D", ""}[s.next(5)])
			if s.next(3) == 0 {
				list[i].Type.Kind = api.StructType
			}
		}
		return list
	}
	longest := 0
	for range 3000 {
		m := api.Module{}
		for range s.next(12) {
			m.Structs = append(m.Structs, api.Struct{Name: []string{"A", "B", "C", "D", "A"}[s.next(5)], Fields: fields(4)})
		}
		list := fields(5)
		values := make([]int, s.next(40))
		for i := range values {
			values[i] = numbers[s.next(len(numbers))]
		}
		want := expectedPrepare(m, list, values)
		longest = max(longest, len(want))
		checkPrepare(t, m, list, values, want)
	}
	if longest < 30 {
		t.Errorf("there are %d components at most", longest)
	}
}

func TestP27_2Inputs(t *testing.T) {
	list := []api.Field{{Name: "a", Type: api.Type{Kind: api.IntType}}, {Name: "", Type: api.Type{Kind: 99, Name: "x"}}, {Name: "a"}}
	for count := range 4 {
		m := api.Module{Stage: api.Stage(count), Inputs: list[:count], Outputs: list, Uniforms: list}
		got := compiler.Inputs(m)
		if !slices.Equal(got, list[:count]) {
			t.Errorf("the inputs are %v, want %v", got, list[:count])
		}
		clear(got[:cap(got)])
		if list[0].Name != "a" || !slices.Equal(compiler.Inputs(m), list[:count]) {
			t.Error("the inputs share memory with the module")
		}
	}
	if got := compiler.Inputs(api.Module{Inputs: slices.Repeat(list, 500)}); len(got) != 1500 {
		t.Errorf("there are %d inputs", len(got))
	}
}

// TestP27_2Memory changes results, which share no memory.
func TestP27_2Memory(t *testing.T) {
	fields, values := []api.Field{of(api.Vec2Type, "")}, []int{5, 6}
	first := compiler.Prepare(api.Module{}, fields, values)
	second := compiler.Prepare(api.Module{}, fields, values)
	first[0] = 99
	if values[0] != 5 || second[0] != 5 {
		t.Error("results of Prepare share memory")
	}
}
