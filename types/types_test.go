package types

import (
	"fmt"
	"math"
	"reflect"
	"slices"
	"strings"
	"testing"

	"frustum/api"
	"frustum/parser"
)

// The types of the shading language.
var (
	fixedType = api.Type{Kind: api.FixedType}
	halfType  = api.Type{Kind: api.HalfType}
	intType   = api.Type{Kind: api.IntType}
	boolType  = api.Type{Kind: api.BoolType}
	vec2Type  = api.Type{Kind: api.Vec2Type}
	vec3Type  = api.Type{Kind: api.Vec3Type}
	vec4Type  = api.Type{Kind: api.Vec4Type}
)

func structType(name string) api.Type {
	return api.Type{Kind: api.StructType, Name: name}
}

// simpleTypes are all types but structs.
func simpleTypes() []api.Type {
	return []api.Type{fixedType, halfType, intType, boolType, vec2Type, vec3Type, vec4Type}
}

// wordOf returns a text for a type.
func wordOf(t api.Type) string {
	words := []string{"", "fixed", "half", "int", "bool", "vec2", "vec3", "vec4"}
	switch {
	case t.Kind >= 1 && t.Kind <= 7 && t.Name == "":
		return words[t.Kind]
	case t.Kind == 8:
		return "struct " + t.Name
	}
	return fmt.Sprintf("kind %d %q", t.Kind, t.Name)
}

func field(name string, t api.Type) api.Field {
	return api.Field{Name: name, Type: t}
}

// fieldsOf returns fields of some types, with different names.
func fieldsOf(types ...api.Type) []api.Field {
	var fields []api.Field
	for i, t := range types {
		fields = append(fields, field(fmt.Sprintf("f%d", i), t))
	}
	return fields
}

// number, integer, boolean, name, unary, binary, call, member and index return expressions.
func number(value int) api.Expr {
	return api.Expr{Kind: api.NumberExpr, Value: value}
}

func integer(value int) api.Expr {
	return api.Expr{Kind: api.IntExpr, Value: value}
}

func boolean(value int) api.Expr {
	return api.Expr{Kind: api.BoolExpr, Value: value}
}

func name(name string) api.Expr {
	return api.Expr{Kind: api.NameExpr, Name: name}
}

func unary(op api.Operator, arg api.Expr) api.Expr {
	return api.Expr{Kind: api.UnaryExpr, Op: op, Args: []api.Expr{arg}}
}

func binary(op api.Operator, a, b api.Expr) api.Expr {
	return api.Expr{Kind: api.BinaryExpr, Op: op, Args: []api.Expr{a, b}}
}

func call(name string, args ...api.Expr) api.Expr {
	return api.Expr{Kind: api.CallExpr, Name: name, Args: args}
}

func member(arg api.Expr, name string) api.Expr {
	return api.Expr{Kind: api.MemberExpr, Name: name, Args: []api.Expr{arg}}
}

func index(a, b api.Expr) api.Expr {
	return api.Expr{Kind: api.IndexExpr, Args: []api.Expr{a, b}}
}

// parse returns the module with a text.
func parse(t *testing.T, text string) api.Module {
	t.Helper()
	m, line, code := parser.Parse(text)
	if code != api.OK {
		t.Fatalf("the test is wrong: the text %q has error %d in line %d", text, code, line)
	}
	return m
}

// parseExpr returns the expression with a text.
func parseExpr(t *testing.T, text string) api.Expr {
	t.Helper()
	e, line, code := parser.ParseExpr(text)
	if code != api.OK {
		t.Fatalf("the test is wrong: the text %q has error %d in line %d", text, code, line)
	}
	return e
}

func TestP20_1Kinds(t *testing.T) {
	counts := []int{0, 1, 1, 1, 1, 2, 3, 4}
	m := api.Module{Structs: []api.Struct{{Name: "S", Fields: fieldsOf(vec4Type, intType)}}}
	for kind := api.TypeKind(-3); kind <= 12; kind++ {
		want := 0
		if kind >= 1 && kind <= 7 {
			want = counts[kind]
		}
		// Without a struct S of its own, a name that a type must not have changes nothing.
		for _, name := range []string{"", "x", "T", "fixed", "vec4"} {
			checkKind(t, m, api.Type{Kind: kind, Name: name}, want)
		}
		if kind == api.StructType {
			want = 5
		}
		checkKind(t, m, api.Type{Kind: kind, Name: "S"}, want)
	}
	for _, kind := range []api.TypeKind{math.MinInt, math.MinInt + 1, -1 << 32, 1 << 32, 1<<32 + 1, 1<<32 + 5, 1<<32 + 8, math.MaxInt} {
		checkKind(t, m, api.Type{Kind: kind}, 0)
		checkKind(t, m, api.Type{Kind: kind, Name: "S"}, 0)
	}
}

// checkKind checks the number of components of a type, and whether it is a scalar or a vector.
func checkKind(t *testing.T, m api.Module, of api.Type, want int) {
	t.Helper()
	if got := Components(m, of); got != want {
		t.Errorf("%s has %d components, want %d", wordOf(of), got, want)
	}
	if got := Total(m, []api.Field{field("a", of)}); got != want {
		t.Errorf("a field of %s has %d components, want %d", wordOf(of), got, want)
	}
	if got := IsScalar(of); got != (of.Kind >= 1 && of.Kind <= 4) {
		t.Errorf("%s is a scalar: %t", wordOf(of), got)
	}
	if got := IsVector(of); got != (of.Kind >= 5 && of.Kind <= 7) {
		t.Errorf("%s is a vector: %t", wordOf(of), got)
	}
}

// checkComponents checks the number of components of a struct.
func checkComponents(t *testing.T, m api.Module, name string, want int) {
	t.Helper()
	if got := Components(m, structType(name)); got != want {
		t.Errorf("the struct %s has %d components, want %d", name, got, want)
	}
	if got := Total(m, fieldsOf(structType(name), intType)); got != min(want+1, 1000) {
		t.Errorf("the struct %s and an int have %d components, want %d", name, got, want+1)
	}
}

func TestP20_1Structs(t *testing.T) {
	m := api.Module{Structs: []api.Struct{
		{Name: "None"}, {Name: "A", Fields: fieldsOf(fixedType)}, {Name: "B", Fields: fieldsOf(simpleTypes()...)}, {Name: "C", Fields: fieldsOf(structType("A"), structType("B"), structType("A"))},
		// A field of this struct, of a later one, or of none has no components.
		{Name: "Self", Fields: fieldsOf(vec2Type, structType("Self"))}, {Name: "Late", Fields: fieldsOf(intType, structType("Later"), structType("Missing"))}, {Name: "Later", Fields: fieldsOf(vec4Type)}, {Name: "After", Fields: fieldsOf(structType("Later"), structType("Late"))},
		// Only the first struct with a name counts.
		{Name: "A", Fields: fieldsOf(vec4Type, vec4Type)}, {Name: "D", Fields: fieldsOf(structType("A"), structType("Twice"))}, {Name: "Twice", Fields: fieldsOf(structType("Twice"), vec3Type)}, {Name: "Twice", Fields: fieldsOf(structType("Twice"), structType("Twice"))}, {Name: "E", Fields: fieldsOf(structType("Twice"))},
		{Name: "", Fields: fieldsOf(vec2Type)}, {Name: "F", Fields: fieldsOf(structType(""), api.Type{}, api.Type{Kind: 9}, api.Type{Kind: -1, Name: "A"})}, {Name: "vec2", Fields: fieldsOf(intType)},
		{Name: "G", Fields: []api.Field{field("x", vec2Type), field("x", intType), field("", intType)}},
	}}
	for name, want := range map[string]int{"None": 0, "A": 1, "B": 13, "C": 15, "Self": 2, "Late": 1, "Later": 4, "After": 5, "D": 1, "Twice": 3, "E": 3, "": 2, "F": 2, "vec2": 1, "G": 4, "Missing": 0, "a": 0, "int": 0} {
		checkComponents(t, m, name, want)
	}
	checkComponents(t, api.Module{}, "A", 0)
	// A struct of two structs, of which each one is of two structs, and so on.
	for _, first := range []api.Field{field("a", fixedType), field("a", structType("none"))} {
		nested := api.Module{Structs: []api.Struct{{Name: "S0", Fields: []api.Field{first}}}}
		for i := range 2000 {
			inner := structType(fmt.Sprintf("S%d", i))
			nested.Structs = append(nested.Structs, api.Struct{Name: fmt.Sprintf("S%d", i+1), Fields: fieldsOf(inner, inner)})
		}
		for i := range 2001 {
			want := 0
			if first.Type == fixedType {
				want = min(1<<min(i, 20), 1000)
			}
			if i < 15 || i%200 == 0 {
				checkComponents(t, nested, fmt.Sprintf("S%d", i), want)
			}
		}
	}
}

func TestP20_1Limit(t *testing.T) {
	for count, want := range map[int]int{0: 0, 1: 4, 16: 64, 249: 996, 250: 1000, 251: 1000, 300: 1000, 100000: 1000} {
		fields := slices.Repeat([]api.Field{field("a", vec4Type)}, count)
		m := api.Module{Structs: []api.Struct{{Name: "S", Fields: fields}}}
		checkComponents(t, m, "S", want)
		if got := Total(m, fields); got != want {
			t.Errorf("%d vectors have %d components, want %d", count, got, want)
		}
		for more, t2 := range []api.Type{{}, fixedType, vec2Type, vec3Type, vec4Type} {
			if got := Total(m, append(fields[:count:count], field("b", t2))); got != min(want+more, 1000) {
				t.Errorf("%d vectors and %d numbers have %d components", count, more, got)
			}
		}
	}
	for count, want := range map[int]int{998: 998, 999: 999, 1000: 1000, 1001: 1000, 2000: 1000} {
		m := api.Module{Structs: []api.Struct{{Name: "S", Fields: slices.Repeat([]api.Field{field("a", boolType)}, count)}, {Name: "T", Fields: fieldsOf(structType("S"))}, {Name: "U", Fields: fieldsOf(structType("T"), structType("T"))}}}
		checkComponents(t, m, "S", want)
		checkComponents(t, m, "T", want)
		checkComponents(t, m, "U", 1000)
	}
}

func TestP20_1Offset(t *testing.T) {
	m := api.Module{Structs: []api.Struct{{Name: "S", Fields: fieldsOf(vec3Type, boolType)}, {Name: "None"}}}
	fields := []api.Field{field("a", fixedType), field("b", vec3Type), field("c", structType("S")), field("b", intType), field("d", structType("None")), field("e", halfType), field("", boolType), field("f", structType("T")), field("g", api.Type{Kind: 77, Name: "x"})}
	for _, c := range []struct {
		name  string
		want  int
		t     api.Type
		found bool
	}{
		{"a", 0, fixedType, true}, {"b", 1, vec3Type, true}, {"c", 4, structType("S"), true}, {"d", 9, structType("None"), true}, {"e", 9, halfType, true}, {"", 10, boolType, true}, {"f", 11, structType("T"), true}, {"g", 11, api.Type{Kind: 77, Name: "x"}, true},
		{"h", 0, api.Type{}, false}, {"A", 0, api.Type{}, false}, {"aa", 0, api.Type{}, false}, {"S", 0, api.Type{}, false},
	} {
		if got, of, found := Offset(m, fields, c.name); got != c.want || of != c.t || found != c.found {
			t.Errorf("the offset of %q is %d, %s, %t", c.name, got, wordOf(of), found)
		}
		if got, of, found := Offset(m, nil, c.name); got != 0 || of != (api.Type{}) || found {
			t.Errorf("the offset of %q in no fields is %d, %s, %t", c.name, got, wordOf(of), found)
		}
	}
	if got := Total(m, fields); got != 11 {
		t.Errorf("the fields have %d components", got)
	}
	if Total(m, nil) != 0 || Total(m, []api.Field{}) != 0 {
		t.Error("no fields have components")
	}
	long := append(slices.Repeat([]api.Field{field("a", vec4Type)}, 300), field("last", intType))
	if got, of, found := Offset(m, long, "last"); got != 1000 || of != intType || !found {
		t.Errorf("the offset of the last one is %d, %s, %t", got, wordOf(of), found)
	}
}

func TestP20_1Find(t *testing.T) {
	m := api.Module{Structs: []api.Struct{{Name: "A"}, {Name: "B"}, {Name: "A"}, {Name: ""}, {Name: "min"}}, Functions: []api.Function{{Name: "B"}, {Name: "f"}, {Name: "f"}, {Name: "B"}, {Name: "vec2"}, {Name: ""}}}
	for name, want := range map[string][2]int{"A": {0, -1}, "B": {1, 0}, "": {3, 5}, "min": {4, -1}, "f": {-1, 1}, "vec2": {-1, 4}, "a": {-1, -1}, "AA": {-1, -1}, "C": {-1, -1}} {
		if got := FindStruct(m, name); got != want[0] {
			t.Errorf("the struct %q is %d, want %d", name, got, want[0])
		}
		if got := FindFunction(m, name); got != want[1] {
			t.Errorf("the function %q is %d, want %d", name, got, want[1])
		}
		if FindStruct(api.Module{}, name) != -1 || FindFunction(api.Module{}, name) != -1 {
			t.Errorf("the empty module has %q", name)
		}
	}
}

// withRoom returns a copy of a value in which each slice has elements behind its length.
func withRoom(v reflect.Value) reflect.Value {
	result := reflect.New(v.Type()).Elem()
	switch v.Kind() {
	case reflect.Slice:
		room := reflect.MakeSlice(v.Type(), 0, v.Len()+2)
		for i := range v.Len() {
			room = reflect.Append(room, withRoom(v.Index(i)))
		}
		result.Set(room)
		for i := range 2 {
			if v.Len() > 0 {
				room.Slice(0, room.Cap()).Index(v.Len() + i).Set(v.Index(i % v.Len()))
			}
		}
	case reflect.Struct:
		for i := range v.NumField() {
			result.Field(i).Set(withRoom(v.Field(i)))
		}
	default:
		result.Set(v)
	}
	return result
}

// memory returns a text with all of a value, and with what is behind the lengths of its slices.
func memory(v reflect.Value) string {
	switch v.Kind() {
	case reflect.Slice:
		text := fmt.Sprint("(", v.Len(), ":")
		for i := range v.Cap() {
			text += memory(v.Slice(0, v.Cap()).Index(i)) + ","
		}
		return text + ")"
	case reflect.Struct:
		text := "{"
		for i := range v.NumField() {
			text += memory(v.Field(i)) + ";"
		}
		return text + "}"
	}
	return fmt.Sprintf("%q", fmt.Sprint(v.Interface()))
}

// TestP20_3Arguments checks that the functions change nothing of a module and a scope, also behind the lengths of their slices.
func TestP20_3Arguments(t *testing.T) {
	m := withRoom(reflect.ValueOf(parse(t, fragmentText()))).Interface().(api.Module)
	scope := withRoom(reflect.ValueOf(fieldsOf(simpleTypes()...))).Interface().([]api.Field)
	before, scopeBefore := memory(reflect.ValueOf(m)), memory(reflect.ValueOf(scope))
	for range 2 {
		if code := Check(m); code != api.OK {
			t.Errorf("the module has error %d", code)
		}
		Weight(m)
		Components(m, structType("Light"))
		Total(m, m.Uniforms)
		Offset(m, m.Uniforms, "n")
		FindStruct(m, "x")
		FindFunction(m, "x")
		for _, f := range m.Functions {
			ExprType(m, f.Params, f.Return)
		}
		for _, s := range m.Main {
			ExprType(m, scope, s.Value)
			ExprType(m, scope[:2], s.Target)
		}
		if memory(reflect.ValueOf(m)) != before || memory(reflect.ValueOf(scope)) != scopeBefore {
			t.Fatal("a function changed its argument")
		}
	}
}

// fragmentText returns the text of a fragment shader that uses everything but emit and cut.
func fragmentText() string {
	return `shader fragment;
struct Light { color: vec3; power: half; }
struct Lights { first: Light; second: Light; count: int; }
uniform lights: Lights; uniform n: int; uniform on: bool;
texture t; texture t2; buffer b; buffer b2;
in uv: vec2; in w: fixed; in normal: vec3; in kind: int;
out color: vec4; out flag: bool;
fn one() -> fixed { return 1.0; }
fn shade(l: Light, k: fixed) -> vec3 {
	let c: vec3 = l.color * k;
	if (k < one()) { c[0] = 0.5; c.y = k; } else { let d: fixed = k; c = c * d; }
	return c + l.color;
}
fn both(l: Lights) -> Light {
	return Light(shade(l.first, one()) + shade(l.second, 0.5), half(fixed(l.count)));
}
main {
	let sum: vec3 = shade(lights.first, w) + both(lights).color;
	loop 3 {
		if (!on | (n & 1) == 0) { break; } else { continue; }
	}
	let texel: vec4 = sample(t, uv, 0.0) + fetch(t2, n, load(b, n), 0);
	if (dot(normal, ddx(normal)) < mix(w, 1.0, 0.5) ^ flag) { discard; }
	color = vec4(min(sum, abs(ddy(normal))), clamp(w, 0.0, floor(w) + fract(w) * sqrt(w)));
	color[kind % 4] = texel.w / 2.0;
	flag = bool(max(n, load(b2, -n)) << 2 >> 1);
}
`
}

func TestP20_3Fragment(t *testing.T) {
	if code := Check(parse(t, fragmentText())); code != api.OK {
		t.Errorf("the module has error %d", code)
	}
	if strings.Contains(fragmentText(), "emit") {
		t.Error("the test is wrong")
	}
}
