package parser

import (
	"fmt"
	"reflect"
	"slices"
	"testing"

	"frustum/api"
)

// full returns a module in which no field is zero and each list has two elements, also where a kind does not use them.
func full() api.Module {
	field := func(name string) api.Field {
		return api.Field{Name: name, Type: api.Type{Kind: api.StructType, Name: "S" + name}}
	}
	fields := func(name string) []api.Field { return []api.Field{field(name), field(name + "2")} }
	leaf := api.Expr{Kind: api.NameExpr, Op: api.OpMul, Name: "leaf", Value: 7}
	expr := func(name string) api.Expr {
		return api.Expr{Kind: api.BinaryExpr, Op: api.OpSub, Name: name, Value: 3, Args: []api.Expr{leaf, {Kind: api.CallExpr, Op: api.OpDiv, Name: "f", Value: 2, Args: []api.Expr{leaf, leaf}}}}
	}
	stmt := func(name string, body, other []api.Stmt) api.Stmt {
		return api.Stmt{Kind: api.IfStmt, Name: name, Type: api.Type{Kind: api.IntType, Name: "T"}, Target: expr("target"), Value: expr("value"), Count: 4, Body: body, Else: other}
	}
	block := func(name string) []api.Stmt {
		inner := []api.Stmt{stmt(name, nil, nil), stmt(name, nil, nil)}
		return []api.Stmt{stmt(name, inner, slices.Clone(inner)), stmt(name, nil, nil)}
	}
	function := func(name string) api.Function {
		return api.Function{Name: name, Params: fields("p"), Result: api.Type{Kind: api.StructType, Name: "R"}, Body: block("b"), Return: expr("r")}
	}
	return api.Module{
		Stage: api.FragmentStage, Structs: []api.Struct{{Name: "A", Fields: fields("a")}, {Name: "B", Fields: fields("b")}}, Uniforms: fields("u"), Textures: []string{"t", "t2"}, Buffers: []string{"b", "b2"},
		Inputs: fields("i"), Outputs: fields("o"), Functions: []api.Function{function("f"), function("g")}, Main: block("m"),
	}
}

// changes calls a function after each change of one number, one text or one list of a value, and undoes it. Lists lose or repeat an element, or exchange two different ones.
func changes(v reflect.Value, path string, changed func(path string)) {
	switch v.Kind() {
	case reflect.Int:
		old := v.Int()
		for _, value := range []int64{0, old + 1, -old, 1 << 40} {
			v.SetInt(value)
			changed(path)
		}
		v.SetInt(old)
	case reflect.String:
		old := v.String()
		for _, value := range []string{"", old + "x", "X" + old[1:] + "_"} {
			v.SetString(value)
			changed(path)
		}
		v.SetString(old)
	case reflect.Struct:
		for i := range v.NumField() {
			changes(v.Field(i), path+"."+v.Type().Field(i).Name, changed)
		}
	case reflect.Slice:
		changeList(v, path, changed)
	}
}

func changeList(v reflect.Value, path string, changed func(path string)) {
	for i := range v.Len() {
		changes(v.Index(i), fmt.Sprintf("%s[%d]", path, i), changed)
	}
	old := reflect.ValueOf(v.Interface())
	element := reflect.New(v.Type().Elem()).Elem()
	v.Set(reflect.Append(reflect.AppendSlice(reflect.Zero(v.Type()), old), element))
	changed(path + " with one more")
	if old.Len() > 0 {
		v.Set(old.Slice(0, old.Len()-1))
		changed(path + " with one less")
		v.Set(old.Slice(1, old.Len()))
		changed(path + " without the first")
		v.Set(reflect.Zero(v.Type()))
		changed(path + " without any")
	}
	if old.Len() == 2 && !same(old.Index(0).Interface(), old.Index(1).Interface()) {
		v.Set(reflect.Append(reflect.Zero(v.Type()), old.Index(1), old.Index(0)))
		changed(path + " in another order")
	}
	v.Set(old)
}

// TestP18_4Fields changes each field of a module, at each place.
func TestP18_4Fields(t *testing.T) {
	m := full()
	other := full()
	if !Equal(m, m) || !Equal(m, other) || !Equal(other, m) {
		t.Error("equal modules are not equal")
	}
	count := 0
	changes(reflect.ValueOf(&other).Elem(), "module", func(path string) {
		count++
		if Equal(m, other) || Equal(other, m) {
			t.Errorf("modules are equal with another %s", path)
		}
	})
	if !Equal(m, other) || count < 1000 {
		t.Errorf("the test is wrong: %d changes", count)
	}
	if Equal(m, api.Module{}) || Equal(api.Module{}, m) {
		t.Error("a module is equal to the zero module")
	}
}

// TestP18_4Expressions does the same with expressions of each kind.
func TestP18_4Expressions(t *testing.T) {
	for kind := api.ExprKind(-1); kind <= 11; kind++ {
		make := func() api.Expr {
			e := full().Functions[0].Return
			e.Kind = kind
			return e
		}
		e, other := make(), make()
		if !EqualExpr(e, e) || !EqualExpr(e, other) || EqualExpr(e, api.Expr{}) || EqualExpr(api.Expr{}, e) {
			t.Errorf("expressions of kind %d", kind)
		}
		changes(reflect.ValueOf(&other).Elem(), "expression", func(path string) {
			// The kind may have been replaced by itself.
			if same(e, other) {
				return
			}
			if EqualExpr(e, other) || EqualExpr(other, e) {
				t.Errorf("expressions are equal with another %s", path)
			}
		})
	}
}

// TestP18_4Empty compares nil slices with empty ones.
func TestP18_4Empty(t *testing.T) {
	a := api.Module{Structs: []api.Struct{{}}, Functions: []api.Function{{}}, Main: []api.Stmt{{}}}
	b := api.Module{
		Structs: []api.Struct{{Fields: []api.Field{}}}, Uniforms: []api.Field{}, Textures: []string{}, Buffers: []string{}, Inputs: []api.Field{}, Outputs: []api.Field{},
		Functions: []api.Function{{Params: []api.Field{}, Body: []api.Stmt{}, Return: api.Expr{Args: []api.Expr{}}}},
		Main:      []api.Stmt{{Target: api.Expr{Args: []api.Expr{}}, Value: api.Expr{Args: []api.Expr{}}, Body: []api.Stmt{}, Else: []api.Stmt{}}},
	}
	if !Equal(a, b) || !Equal(b, a) || !Equal(b, b) || !Equal(api.Module{}, api.Module{}) {
		t.Error("nil slices and empty ones are not equal")
	}
	if !Equal(api.Module{}, api.Module{Structs: []api.Struct{}, Functions: []api.Function{}, Main: []api.Stmt{}}) {
		t.Error("nil lists of declarations and empty ones are not equal")
	}
	if !EqualExpr(api.Expr{}, api.Expr{Args: []api.Expr{}}) || !EqualExpr(call("f"), call("f", []api.Expr{}...)) || !EqualExpr(api.Expr{}, api.Expr{}) {
		t.Error("nil arguments and empty ones are not equal")
	}
	if EqualExpr(api.Expr{}, api.Expr{Args: []api.Expr{{}}}) || EqualExpr(api.Expr{Args: []api.Expr{{}}}, api.Expr{}) {
		t.Error("no argument is equal to one")
	}
}

// withRoom returns a copy of a value in which each slice has elements behind its length.
func withRoom(v reflect.Value) reflect.Value {
	result := reflect.New(v.Type()).Elem()
	switch v.Kind() {
	case reflect.Slice:
		room := reflect.MakeSlice(v.Type(), 0, v.Len()+2)
		for i := range v.Len() {
			room = reflect.Append(room, withRoom(v.Index(i)))
		}
		result.Set(room)
		for i := range 2 {
			behind := room.Slice(0, room.Cap()).Index(v.Len() + i)
			if v.Len() > 0 {
				behind.Set(v.Index(i % v.Len()))
			}
		}
	case reflect.Struct:
		for i := range v.NumField() {
			result.Field(i).Set(withRoom(v.Field(i)))
		}
	default:
		result.Set(v)
	}
	return result
}

// memory returns a text with all of a value, and with what is behind the lengths of its slices.
func memory(v reflect.Value) string {
	switch v.Kind() {
	case reflect.Slice:
		text := fmt.Sprint("(", v.Len(), ":")
		for i := range v.Cap() {
			text += memory(v.Slice(0, v.Cap()).Index(i)) + ","
		}
		return text + ")"
	case reflect.Struct:
		text := "{"
		for i := range v.NumField() {
			text += memory(v.Field(i)) + ";"
		}
		return text + "}"
	}
	return fmt.Sprintf("%q", fmt.Sprint(v.Interface()))
}

// TestP18_3Arguments checks that the functions change nothing of a module, also behind the lengths of its slices.
func TestP18_3Arguments(t *testing.T) {
	m := withRoom(reflect.ValueOf(full())).Interface().(api.Module)
	before := memory(reflect.ValueOf(m))
	Nodes(m)
	Depth(m)
	Equal(m, m)
	Equal(m, full())
	Equal(full(), m)
	e := m.Functions[0].Return
	ExprNodes(e)
	ExprDepth(e)
	EqualExpr(e, m.Main[0].Value)
	if memory(reflect.ValueOf(m)) != before {
		t.Error("a function changed its argument")
	}
}
