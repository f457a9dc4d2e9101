package link_test

import (
	"fmt"
	"math"
	"slices"
	"testing"

	"frustum/api"
	"frustum/link"
)

// field returns a field of a kind, or of a struct with a name.
func field(name string, kind api.TypeKind, of string) api.Field {
	return api.Field{Name: name, Type: api.Type{Kind: kind, Name: of}}
}

// structs returns a module with structs that have one field each: a struct with the name of the next one, or an int behind the last one.
func structs(names ...string) api.Module {
	var m api.Module
	for i, name := range names {
		inner := field("f", api.IntType, "")
		if i+1 < len(names) {
			inner = field("f", api.StructType, names[i+1])
		}
		m.Structs = append(m.Structs, api.Struct{Name: name, Fields: []api.Field{inner}})
	}
	return m
}

// with returns a module with another struct behind the others.
func with(m api.Module, name string, fields ...api.Field) api.Module {
	m.Structs = append(slices.Clone(m.Structs), api.Struct{Name: name, Fields: fields})
	return m
}

func checkEqual(t *testing.T, m, n api.Module, a, b []api.Field, want int) {
	t.Helper()
	texts := fmt.Sprint(m, n, a, b)
	if got := link.EqualFields(m, n, a, b); got != want {
		t.Errorf("the fields %v of %v and %v of %v differ at %d, want %d", a, m.Structs, b, n.Structs, got, want)
	}
	// The second reading takes too long for many structs in structs.
	if len(m.Structs) < 20 && second(m, n, a, b, 0) != want {
		t.Errorf("the second reading is %d, want %d", second(m, n, a, b, 0), want)
	}
	if fmt.Sprint(m, n, a, b) != texts {
		t.Error("EqualFields changed its arguments")
	}
}

// second is a second reading of EqualFields, for fields that are nested in a number of structs.
func second(m, n api.Module, a, b []api.Field, depth int) int {
	for i := 0; i < len(a) || i < len(b); i++ {
		if i == len(a) || i == len(b) || a[i] != b[i] || a[i].Type.Kind == api.StructType && !secondStruct(m, n, a[i].Type.Name, depth) {
			return i
		}
	}
	return -1
}

func secondStruct(m, n api.Module, name string, depth int) bool {
	if depth > len(m.Structs) {
		return false
	}
	for _, s := range m.Structs {
		if s.Name != name {
			continue
		}
		for _, u := range n.Structs {
			if u.Name == name {
				return second(m, n, s.Fields, u.Fields, depth+1) < 0
			}
		}
		return false
	}
	return false
}

func TestP28_1Fields(t *testing.T) {
	a, b, c := field("a", api.IntType, ""), field("b", api.Vec2Type, ""), field("c", api.BoolType, "")
	list := func(fields ...api.Field) []api.Field { return fields }
	for _, x := range []struct {
		a, b []api.Field
		want int
	}{
		{nil, nil, -1}, {nil, list(), -1}, {list(a), list(a), -1}, {list(a, b, c), list(a, b, c), -1}, {nil, list(a), 0}, {list(a), nil, 0}, {list(a, b), list(a), 1}, {list(a), list(a, b), 1}, {list(a, b), list(a, b, c, c), 2}, {list(a, b, c), list(a, c, b), 1}, {list(b, a), list(a, b), 0}, {list(a, b, c), list(a, b, a), 2}, {list(c), list(a, b), 0}, {list(a, b, c), list(b), 0}, {list(a, c, b), list(a, b), 1},
		{list(field("a", api.FixedType, "")), list(field("a", api.HalfType, "")), 0}, {list(field("a", api.Vec2Type, "")), list(field("a", api.Vec3Type, "")), 0}, {list(field("a", api.IntType, "")), list(field("A", api.IntType, "")), 0}, {list(field("", api.IntType, "")), list(field("", api.IntType, "")), -1}, {list(field("a", api.IntType, "x")), list(field("a", api.IntType, "")), 0}, {list(field("a", api.IntType, "x")), list(field("a", api.IntType, "x")), -1}, {list(field("a", api.IntType, "x")), list(field("a", api.IntType, "y")), 0},
		// Unknown kinds are kinds like others.
		{list(field("a", 0, "")), list(field("a", 0, "")), -1}, {list(field("a", 9, "")), list(field("a", 9, "")), -1}, {list(field("a", math.MaxInt, "")), list(field("a", math.MinInt, "")), 0}, {list(field("a", 9, "S")), list(field("a", 8, "S")), 0},
	} {
		checkEqual(t, api.Module{}, api.Module{}, x.a, x.b, x.want)
		checkEqual(t, structs("S"), structs("T", "S"), x.a, x.b, x.want)
	}
	many := slices.Repeat([]api.Field{a}, 5000)
	if got := link.EqualFields(api.Module{}, api.Module{}, many, append(slices.Clone(many[:4999]), b)); got != 4999 {
		t.Errorf("long lists differ at %d", got)
	}
}

func TestP28_1Structs(t *testing.T) {
	s := []api.Field{field("x", api.IntType, ""), field("s", api.StructType, "S"), field("y", api.IntType, "")}
	for _, c := range []struct {
		m, n api.Module
		want int
	}{
		{structs("S"), structs("S"), -1}, {structs("S"), api.Module{}, 1}, {api.Module{}, structs("S"), 1}, {api.Module{}, api.Module{}, 1}, {structs("S"), structs("T"), 1},
		{structs("S", "T"), structs("S", "T"), -1}, {structs("S", "T"), structs("S"), 1}, {structs("S"), structs("S", "T"), 1}, {structs("S", "T", "U"), structs("S", "T", "U"), -1}, {structs("S", "T", "U"), structs("S", "T"), 1}, {structs("S", "T"), structs("S", "U"), 1},
		// Structs in another order, and more structs.
		{with(structs("T"), "S", field("f", api.StructType, "T")), structs("S", "T"), -1}, {with(structs("S"), "V"), structs("S"), -1}, {structs("S"), with(with(structs("S"), "V"), "W"), -1},
		// The first struct with a name counts, in both modules.
		{with(structs("S"), "S", field("g", api.BoolType, "")), structs("S"), -1}, {structs("S"), with(structs("S"), "S"), -1}, {with(api.Module{}, "S"), with(with(api.Module{}, "S"), "S", field("f", api.IntType, "")), -1}, {with(with(api.Module{}, "S"), "S", field("f", api.IntType, "")), structs("S"), 1}, {structs("S"), with(with(api.Module{}, "S"), "S", field("f", api.IntType, "")), 1},
		// Fields of structs that differ.
		{with(api.Module{}, "S", field("f", api.FixedType, "")), structs("S"), 1}, {with(api.Module{}, "S", field("g", api.IntType, "")), structs("S"), 1}, {with(api.Module{}, "S"), structs("S"), 1}, {with(api.Module{}, "S", field("f", api.IntType, ""), field("g", api.IntType, "")), structs("S"), 1}, {with(structs("T"), "S", field("f", api.StructType, "T")), with(with(api.Module{}, "T"), "S", field("f", api.StructType, "T")), 1},
		// Structs in themselves are nested without end.
		{structs("S", "S"), structs("S", "S"), 1}, {structs("S", "T", "S"), structs("S", "T", "S"), 1}, {structs("S", "T", "T"), structs("S", "T", "T"), 1}, {structs("S", "T", "U", "T"), structs("S", "T", "U", "T"), 1}, {structs("S", "S"), structs("S"), 1}, {structs("S", "T", "S"), with(with(structs("S", "T", "S"), "V"), "W"), 1}, {with(with(structs("S", "T", "S"), "V"), "W"), structs("S", "T", "S"), 1}, {with(structs("S"), "T", field("f", api.StructType, "T")), with(structs("S"), "T", field("f", api.StructType, "T")), -1},
	} {
		checkEqual(t, c.m, c.n, s, s, c.want)
		// A difference in front of the struct is found first.
		checkEqual(t, c.m, c.n, s, append([]api.Field{field("x", api.BoolType, "")}, s[1:]...), 0)
	}
	// A struct that is the same does not hide one that differs behind it.
	m, n := with(structs("S"), "T", field("f", api.IntType, "")), with(structs("S"), "T", field("f", api.BoolType, ""))
	checkEqual(t, m, n, append(s, field("t", api.StructType, "T"), s[1]), append(s, field("t", api.StructType, "T"), s[1]), 3)
	// The name of a struct counts, even if the fields are the same.
	checkEqual(t, structs("S", "T"), structs("S", "T"), []api.Field{field("s", api.StructType, "S")}, []api.Field{field("s", api.StructType, "T")}, 0)
}

// TestP28_1Nested has many structs in structs.
func TestP28_1Nested(t *testing.T) {
	var names []string
	var tree, loop api.Module
	for i := range 600 {
		name := fmt.Sprint("S", i)
		names = append(names, name)
		inner := field("f", api.StructType, fmt.Sprint("S", i-1))
		tree = with(tree, name, inner, inner, inner)
		loop = with(loop, name, inner, inner)
	}
	top := []api.Field{field("s", api.StructType, "S599")}
	tree.Structs[0].Fields, loop.Structs[0].Fields = nil, top
	checkEqual(t, tree, tree, top, top, -1)
	checkEqual(t, loop, loop, top, top, 0)
	checkEqual(t, tree, loop, top, top, 0)
	other := with(api.Module{}, "S0", field("f", api.IntType, ""))
	other.Structs = append(other.Structs, tree.Structs[1:]...)
	checkEqual(t, tree, other, top, top, 0)
	checkEqual(t, structs(names...), structs(names...), []api.Field{field("s", api.StructType, "S0")}, []api.Field{field("s", api.StructType, "S0")}, -1)
}

// state makes arbitrary numbers.
type state uint64

func (s *state) next(beyond int) int {
	*s = *s*6364136223846793005 + 1442695040888963407
	return int(*s>>33) % beyond
}

// fields returns a few fields, mostly of structs.
func (s *state) fields(most int) []api.Field {
	list := make([]api.Field, s.next(most+1))
	for i := range list {
		list[i] = field([]string{"f", "g"}[s.next(8)/7], []api.TypeKind{api.StructType, api.StructType, api.IntType}[s.next(3)], "")
		if list[i].Type.Kind == api.StructType {
			list[i].Type.Name = []string{"S", "T", "U", "V", "W"}[s.next(5)]
		}
	}
	return list
}

// TestP28_1Arbitrary compares EqualFields with the second reading, for modules that are often almost equal.
func TestP28_1Arbitrary(t *testing.T) {
	s := state(1)
	counts := map[int]int{}
	for range 20000 {
		var m, n api.Module
		for _, name := range []string{"S", "T", "U", "V", "W", "S"}[:s.next(7)] {
			fields := s.fields(2)
			m = with(m, name, fields...)
			if s.next(12) == 0 {
				fields = s.fields(2)
			}
			n = with(n, name, fields...)
		}
		a := s.fields(4)
		b := slices.Clone(a)
		if s.next(4) == 0 {
			b = s.fields(4)
		}
		want := second(m, n, a, b, 0)
		counts[want]++
		if got := link.EqualFields(m, n, a, b); got != want {
			t.Fatalf("the fields %v of %v and %v of %v differ at %d, want %d", a, m.Structs, b, n.Structs, got, want)
		}
	}
	for i := -1; i < 4; i++ {
		if counts[i] < 100 {
			t.Errorf("only %d of the lists differ at %d", counts[i], i)
		}
	}
}

func TestP28_1Outputs(t *testing.T) {
	list := []api.Field{field("position", api.Vec4Type, ""), field("b", api.StructType, "S"), field("", 99, "x"), field("a0", api.IntType, ""), field("b", api.BoolType, "")}
	for count := range len(list) + 1 {
		m := api.Module{Stage: api.Stage(count), Outputs: list[:count], Inputs: list, Uniforms: list}
		var varyings, inputs []api.Field
		for i, f := range list[:count] {
			if i > 0 {
				varyings = append(varyings, f)
			}
		}
		for k := range 3 {
			for _, f := range list[:count] {
				inputs = append(inputs, field(fmt.Sprint(f.Name, k), f.Type.Kind, f.Type.Name))
			}
		}
		for range 2 {
			gotVaryings, gotInputs := link.Varyings(m), link.GeometryInputs(m)
			if !slices.Equal(gotVaryings, varyings) {
				t.Errorf("the varyings are %v, want %v", gotVaryings, varyings)
			}
			if !slices.Equal(gotInputs, inputs) {
				t.Errorf("the inputs of a geometry shader are %v, want %v", gotInputs, inputs)
			}
			// Results share no memory with the module or with each other.
			clear(gotVaryings[:cap(gotVaryings)])
			clear(gotInputs[:cap(gotInputs)])
		}
	}
	if got := link.Varyings(api.Module{Outputs: slices.Repeat(list, 300)}); len(got) != 1499 {
		t.Errorf("there are %d varyings", len(got))
	}
	if got := link.GeometryInputs(api.Module{Outputs: slices.Repeat(list, 300)}); len(got) != 4500 || got[4499].Name != "b2" {
		t.Errorf("there are %d inputs of a geometry shader", len(got))
	}
}
