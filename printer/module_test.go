package printer

import (
	"fmt"
	"math"
	"reflect"
	"slices"
	"strings"
	"testing"

	"frustum/api"
	"frustum/parser"
)

func TestP19_3Statements(t *testing.T) {
	a, b, one := name("a"), name("b"), integer(1)
	emit, cut := api.Stmt{Kind: api.EmitStmt}, api.Stmt{Kind: api.CutStmt}
	for _, c := range []struct {
		s    api.Stmt
		want string
	}{
		{api.Stmt{Kind: api.BreakStmt}, "break;\n"}, {api.Stmt{Kind: api.ContinueStmt}, "continue;\n"}, {api.Stmt{Kind: api.DiscardStmt}, "discard;\n"}, {emit, "emit;\n"}, {cut, "cut;\n"},
		{api.Stmt{Kind: api.LetStmt, Name: "x", Type: fixedType, Value: number(98304)}, "let x: fixed = 1.5;\n"}, {api.Stmt{Kind: api.LetStmt, Name: "_", Type: structType("Light"), Value: call("Light", a, b)}, "let _: Light = Light(a, b);\n"}, {api.Stmt{Kind: api.LetStmt, Name: "v", Type: vec4Type, Value: binary(api.OpOr, a, b)}, "let v: vec4 = a | b;\n"},
		{api.Stmt{Kind: api.AssignStmt, Target: a, Value: one}, "a = 1;\n"}, {api.Stmt{Kind: api.AssignStmt, Target: member(a, "x"), Value: binary(api.OpEqual, a, b)}, "a.x = a == b;\n"}, {api.Stmt{Kind: api.AssignStmt, Target: index(a, binary(api.OpSub, b, one)), Value: unary(api.OpNegate, a)}, "a[b - 1] = -a;\n"},
		{api.Stmt{Kind: api.AssignStmt, Target: member(index(member(member(a, "p"), "q"), b), "x"), Value: b}, "a.p.q[b].x = b;\n"}, {api.Stmt{Kind: api.AssignStmt, Target: index(index(a, call("f", b)), one), Value: b}, "a[f(b)][1] = b;\n"},
		{api.Stmt{Kind: api.IfStmt, Value: a}, "if (a) {\n}\n"}, {api.Stmt{Kind: api.IfStmt, Value: binary(api.OpLess, a, b), Body: []api.Stmt{emit}}, "if (a < b) {\n  emit;\n}\n"}, {api.Stmt{Kind: api.IfStmt, Value: a, Body: []api.Stmt{emit, cut}, Else: []api.Stmt{cut, emit}}, "if (a) {\n  emit;\n  cut;\n} else {\n  cut;\n  emit;\n}\n"}, {api.Stmt{Kind: api.IfStmt, Value: a, Else: []api.Stmt{emit}}, "if (a) {\n} else {\n  emit;\n}\n"},
		{api.Stmt{Kind: api.IfStmt, Value: a, Body: []api.Stmt{}, Else: []api.Stmt{}}, "if (a) {\n}\n"},
		{api.Stmt{Kind: api.LoopStmt}, "loop 0 {\n}\n"}, {api.Stmt{Kind: api.LoopStmt, Count: 1, Body: []api.Stmt{emit}}, "loop 1 {\n  emit;\n}\n"}, {api.Stmt{Kind: api.LoopStmt, Count: 16, Body: []api.Stmt{emit, cut}}, "loop 16 {\n  emit;\n  cut;\n}\n"}, {api.Stmt{Kind: api.LoopStmt, Count: 2147483647}, "loop 2147483647 {\n}\n"}, {api.Stmt{Kind: api.LoopStmt, Count: 2147483646}, "loop 2147483646 {\n}\n"},
		{api.Stmt{Kind: api.LoopStmt, Count: 2, Body: []api.Stmt{{Kind: api.IfStmt, Value: a, Body: []api.Stmt{{Kind: api.LoopStmt, Count: 3, Body: []api.Stmt{emit}}}, Else: []api.Stmt{{Kind: api.IfStmt, Value: b, Else: []api.Stmt{{Kind: api.BreakStmt}}}}}, cut}},
			"loop 2 {\n  if (a) {\n    loop 3 {\n      emit;\n    }\n  } else {\n    if (b) {\n    } else {\n      break;\n    }\n  }\n  cut;\n}\n"},
	} {
		checkStmt(t, c.s, c.want)
	}
	for _, name := range names() {
		checkStmt(t, api.Stmt{Kind: api.LetStmt, Name: name, Type: intType, Value: one}, "let "+name+": int = 1;\n")
		checkStmt(t, api.Stmt{Kind: api.LetStmt, Name: "x", Type: structType(name), Value: one}, "let x: "+name+" = 1;\n")
	}
	for i, word := range typeWords() {
		checkStmt(t, api.Stmt{Kind: api.LetStmt, Name: "x", Type: api.Type{Kind: api.TypeKind(i + 1)}, Value: one}, "let x: "+word+" = 1;\n")
	}
}

// TestP19_3Indents prints nested statements with each indent, of which at most 16 count.
func TestP19_3Indents(t *testing.T) {
	s := api.Stmt{Kind: api.LoopStmt, Count: 1, Body: []api.Stmt{{Kind: api.IfStmt, Value: name("a"), Body: []api.Stmt{{Kind: api.EmitStmt}}, Else: []api.Stmt{{Kind: api.LoopStmt, Count: 2, Body: []api.Stmt{{Kind: api.CutStmt}}}}}}}
	for _, indent := range []int{math.MinInt, math.MinInt + 1, -1 << 32, -17, -1, 0, 1, 2, 8, 12, 13, 14, 15, 16, 17, 18, 100, 1 << 32, 1<<32 + 1, math.MaxInt - 1, math.MaxInt} {
		lines := []struct {
			depth int
			text  string
		}{{0, "loop 1 {"}, {1, "if (a) {"}, {2, "emit;"}, {1, "} else {"}, {2, "loop 2 {"}, {3, "cut;"}, {2, "}"}, {1, "}"}, {0, "}"}}
		want := ""
		for _, line := range lines {
			first := min(max(indent, 0), 16)
			want += strings.Repeat(" ", 2*min(first+line.depth, 16)) + line.text + "\n"
		}
		if got, code := Stmt(s, indent); got != want || code != api.OK {
			t.Errorf("with the indent %d the text is\n%s%d, want\n%s", indent, got, code, want)
		}
		if got, code := Stmt(api.Stmt{Kind: api.CutStmt}, indent); got != strings.Repeat(" ", 2*min(max(indent, 0), 16))+"cut;\n" || code != api.OK {
			t.Errorf("with the indent %d the text is %q, %d", indent, got, code)
		}
	}
	// A statement may be deeper than those of a module.
	deep, want := api.Stmt{Kind: api.EmitStmt}, strings.Repeat(" ", 32)+"emit;\n"
	for depth := 999; depth >= 0; depth-- {
		spaces := strings.Repeat(" ", 2*min(depth, 16))
		deep = api.Stmt{Kind: api.LoopStmt, Body: []api.Stmt{deep}}
		want = spaces + "loop 0 {\n" + want + spaces + "}\n"
	}
	if got, code := Stmt(deep, 0); got != want || code != api.OK {
		t.Errorf("a deep statement has %d bytes and error %d", len(got), code)
	}
}

func TestP19_3Wrong(t *testing.T) {
	a, one := name("a"), integer(1)
	for _, kind := range []api.StmtKind{math.MinInt, -9, -1, 0, 10, 11, 1<<32 + 1, math.MaxInt} {
		checkNoStmt(t, api.Stmt{Kind: kind})
		checkNoStmt(t, api.Stmt{Kind: kind, Name: "a", Type: intType, Value: one})
	}
	for _, count := range []int{math.MinInt, -1 << 32, -2147483648, -2, -1, 2147483648, 2147483649, 1 << 32, 1<<32 + 1, math.MaxInt} {
		checkNoStmt(t, api.Stmt{Kind: api.LoopStmt, Count: count})
	}
	for _, name := range noNames() {
		checkNoStmt(t, api.Stmt{Kind: api.LetStmt, Name: name, Type: intType, Value: one})
		checkNoStmt(t, api.Stmt{Kind: api.LetStmt, Name: "a", Type: structType(name), Value: one})
		if name != "" {
			checkNoStmt(t, api.Stmt{Kind: api.LetStmt, Name: "a", Type: api.Type{Kind: api.IntType, Name: name}, Value: one})
		}
	}
	for _, kind := range []api.TypeKind{-1, 0, 8, 9} {
		checkNoStmt(t, api.Stmt{Kind: api.LetStmt, Name: "a", Type: api.Type{Kind: kind}, Value: one})
	}
	// Targets are names, and members and indices of targets.
	for _, target := range []api.Expr{{}, one, number(1), boolean(1), call("f", a), call("f"), unary(api.OpNegate, a), binary(api.OpAdd, a, a), {Kind: 10, Args: []api.Expr{a}}, {Kind: api.MemberExpr, Name: "x"}, {Kind: api.IndexExpr}, {Kind: api.IndexExpr, Args: []api.Expr{a}}, {Kind: api.NameExpr}, {Kind: api.NameExpr, Name: "if"}, {Kind: api.NameExpr, Name: "a", Args: []api.Expr{a}}} {
		checkNoStmt(t, api.Stmt{Kind: api.AssignStmt, Target: target, Value: one})
		checkNoStmt(t, api.Stmt{Kind: api.AssignStmt, Target: member(target, "x"), Value: one})
		checkNoStmt(t, api.Stmt{Kind: api.AssignStmt, Target: index(target, one), Value: one})
		checkNoStmt(t, api.Stmt{Kind: api.AssignStmt, Target: member(index(member(target, "x"), one), "x"), Value: one})
	}
	checkNoStmt(t, api.Stmt{Kind: api.AssignStmt, Target: member(a, "1"), Value: one})
	checkNoStmt(t, api.Stmt{Kind: api.AssignStmt, Target: index(a, api.Expr{}), Value: one})
	checkNoStmt(t, api.Stmt{Kind: api.AssignStmt, Target: index(a, integer(-1)), Value: one})
}

// TestP19_3Unused sets each field that a kind of statement does not use.
func TestP19_3Unused(t *testing.T) {
	a := name("a")
	good := []api.Stmt{
		{Kind: api.LetStmt, Name: "a", Type: intType, Value: a}, {Kind: api.AssignStmt, Target: a, Value: a}, {Kind: api.IfStmt, Value: a, Body: []api.Stmt{{Kind: api.EmitStmt}}, Else: []api.Stmt{{Kind: api.EmitStmt}}}, {Kind: api.LoopStmt, Count: 2, Body: []api.Stmt{{Kind: api.EmitStmt}}},
		{Kind: api.BreakStmt}, {Kind: api.ContinueStmt}, {Kind: api.DiscardStmt}, {Kind: api.EmitStmt}, {Kind: api.CutStmt},
	}
	values := []api.Stmt{
		{Name: "b"}, {Type: fixedType}, {Type: api.Type{Name: "b"}}, {Target: a}, {Target: api.Expr{Kind: 99}}, {Target: api.Expr{Op: 1}}, {Target: api.Expr{Name: "b"}}, {Target: api.Expr{Value: 1}}, {Target: api.Expr{Args: []api.Expr{{}}}},
		{Value: a}, {Value: api.Expr{Kind: 99}}, {Value: api.Expr{Op: 1}}, {Value: api.Expr{Name: "b"}}, {Value: api.Expr{Value: 1}}, {Value: api.Expr{Args: []api.Expr{{}}}}, {Count: 1}, {Count: -1}, {Body: []api.Stmt{{Kind: api.EmitStmt}}}, {Body: []api.Stmt{{}}}, {Else: []api.Stmt{{Kind: api.EmitStmt}}}, {Else: []api.Stmt{{}}},
	}
	for _, s := range good {
		text, code := Stmt(s, 0)
		if code != api.OK {
			t.Errorf("%+v has error %d", s, code)
		}
		for _, value := range values {
			changed, from := s, reflect.ValueOf(value)
			for i := range from.NumField() {
				// A field that is used keeps its value.
				if to := reflect.ValueOf(&changed).Elem().Field(i); to.IsZero() {
					to.Set(from.Field(i))
				}
			}
			if !same(changed, s) {
				checkNoStmt(t, changed)
			}
		}
		// Empty slices are equivalent to nil.
		s.Target.Args, s.Value.Args = append([]api.Expr{}, s.Target.Args...), append([]api.Expr{}, s.Value.Args...)
		s.Body, s.Else = append([]api.Stmt{}, s.Body...), append([]api.Stmt{}, s.Else...)
		if got, code := Stmt(s, 0); got != text || code != api.OK {
			t.Errorf("with empty slices, %q becomes %q, %d", text, got, code)
		}
	}
}

// full returns a module with several of each declaration and with all kinds of statements, and its text.
func full() (api.Module, string) {
	m := api.Module{
		Stage:    api.GeometryStage,
		Structs:  []api.Struct{{Name: "Light", Fields: []api.Field{field("color", vec3Type), field("power", halfType)}}, {Name: "None"}, {Name: "Two", Fields: []api.Field{field("a", structType("Light"))}}},
		Uniforms: []api.Field{field("light", structType("Light")), field("n", intType)}, Textures: []string{"t", "t2"}, Buffers: []string{"b", "b2"}, Inputs: []api.Field{field("a", vec4Type), field("c", boolType)}, Outputs: []api.Field{field("position", vec4Type), field("uv", vec2Type)},
		Functions: []api.Function{
			{Name: "first", Result: fixedType, Return: number(98304)},
			{Name: "second", Params: []api.Field{field("x", fixedType)}, Result: structType("None"), Body: []api.Stmt{{Kind: api.EmitStmt}}, Return: call("None")},
			{Name: "third", Params: []api.Field{field("x", fixedType), field("l", structType("Light")), field("y", boolType)}, Result: vec2Type, Body: []api.Stmt{{Kind: api.LetStmt, Name: "z", Type: fixedType, Value: name("x")}, {Kind: api.IfStmt, Value: name("y"), Body: []api.Stmt{{Kind: api.AssignStmt, Target: name("z"), Value: number(0)}}}}, Return: call("vec2", name("z"), name("x"))},
		},
		Main: []api.Stmt{
			{Kind: api.LetStmt, Name: "v", Type: vec2Type, Value: call("third", member(name("a"), "w"), name("light"), name("c"))},
			{Kind: api.LoopStmt, Count: 4, Body: []api.Stmt{{Kind: api.IfStmt, Value: binary(api.OpLess, name("n"), integer(3)), Body: []api.Stmt{{Kind: api.BreakStmt}}, Else: []api.Stmt{{Kind: api.ContinueStmt}, {Kind: api.CutStmt}}}}},
			{Kind: api.DiscardStmt},
		},
	}
	return m, `shader geometry;
struct Light {
  color: vec3;
  power: half;
}
struct None {
}
struct Two {
  a: Light;
}
uniform light: Light;
uniform n: int;
texture t;
texture t2;
buffer b;
buffer b2;
in a: vec4;
in c: bool;
out position: vec4;
out uv: vec2;
fn first() -> fixed {
  return 1.5;
}
fn second(x: fixed) -> None {
  emit;
  return None();
}
fn third(x: fixed, l: Light, y: bool) -> vec2 {
  let z: fixed = x;
  if (y) {
    z = 0.0;
  }
  return vec2(z, x);
}
main {
  let v: vec2 = third(a.w, light, c);
  loop 4 {
    if (n < 3) {
      break;
    } else {
      continue;
      cut;
    }
  }
  discard;
}
`
}

func TestP19_4Modules(t *testing.T) {
	m, text := full()
	checkModule(t, m, text)
	v := api.VertexStage
	for _, c := range []struct {
		m    api.Module
		want string
	}{
		{api.Module{Stage: v}, "shader vertex;\nmain {\n}\n"}, {api.Module{Stage: api.GeometryStage}, "shader geometry;\nmain {\n}\n"}, {api.Module{Stage: api.FragmentStage}, "shader fragment;\nmain {\n}\n"},
		{api.Module{Stage: v, Structs: []api.Struct{{Name: "S"}}}, "shader vertex;\nstruct S {\n}\nmain {\n}\n"}, {api.Module{Stage: v, Structs: []api.Struct{{Name: "S", Fields: []api.Field{field("a", intType)}}}}, "shader vertex;\nstruct S {\n  a: int;\n}\nmain {\n}\n"},
		{api.Module{Stage: v, Uniforms: []api.Field{field("a", intType)}}, "shader vertex;\nuniform a: int;\nmain {\n}\n"}, {api.Module{Stage: v, Textures: []string{"a"}}, "shader vertex;\ntexture a;\nmain {\n}\n"}, {api.Module{Stage: v, Buffers: []string{"a"}}, "shader vertex;\nbuffer a;\nmain {\n}\n"}, {api.Module{Stage: v, Inputs: []api.Field{field("a", intType)}}, "shader vertex;\nin a: int;\nmain {\n}\n"}, {api.Module{Stage: v, Outputs: []api.Field{field("a", intType)}}, "shader vertex;\nout a: int;\nmain {\n}\n"},
		{api.Module{Stage: v, Functions: []api.Function{{Name: "f", Result: intType, Return: integer(1)}}}, "shader vertex;\nfn f() -> int {\n  return 1;\n}\nmain {\n}\n"}, {api.Module{Stage: v, Functions: []api.Function{{Name: "f", Params: []api.Field{field("x", boolType)}, Result: structType("S"), Body: []api.Stmt{{Kind: api.CutStmt}}, Return: binary(api.OpOr, name("a"), name("b"))}}}, "shader vertex;\nfn f(x: bool) -> S {\n  cut;\n  return a | b;\n}\nmain {\n}\n"},
		{api.Module{Stage: v, Main: []api.Stmt{{Kind: api.EmitStmt}}}, "shader vertex;\nmain {\n  emit;\n}\n"}, {api.Module{Stage: v, Main: []api.Stmt{{Kind: api.EmitStmt}, {Kind: api.CutStmt}}}, "shader vertex;\nmain {\n  emit;\n  cut;\n}\n"},
		// Names may be used twice, and structs that are not declared.
		{api.Module{Stage: v, Structs: []api.Struct{{Name: "a"}, {Name: "a"}}, Textures: []string{"a", "a"}, Outputs: []api.Field{field("a", structType("T")), field("a", structType("a"))}}, "shader vertex;\nstruct a {\n}\nstruct a {\n}\ntexture a;\ntexture a;\nout a: T;\nout a: a;\nmain {\n}\n"},
	} {
		checkModule(t, c.m, c.want)
	}
	for _, stage := range []api.Stage{math.MinInt, -1, 0, 4, 5, 1<<32 + 1, math.MaxInt} {
		checkNoModule(t, api.Module{Stage: stage})
		m.Stage = stage
		checkNoModule(t, m)
	}
}

// spoiled calls a function after each change of a text, a number or a type of a value that makes it unprintable, and undoes it.
func spoiled(v reflect.Value, path string, changed func(path string)) {
	switch v.Kind() {
	case reflect.Int:
		old := v.Int()
		for _, value := range []int64{-1, 1 << 31, 1 << 40, math.MinInt, math.MaxInt} {
			v.SetInt(value)
			changed(path)
		}
		v.SetInt(old)
	case reflect.String:
		old := v.String()
		for _, value := range []string{"if", "vec2 ", "1", "\n", strings.Repeat("a", 17)} {
			v.SetString(value)
			changed(path)
		}
		v.SetString(old)
	case reflect.Struct:
		for i := range v.NumField() {
			spoiled(v.Field(i), path+"."+v.Type().Field(i).Name, changed)
		}
	case reflect.Slice:
		for i := range v.Len() {
			spoiled(v.Index(i), fmt.Sprintf("%s[%d]", path, i), changed)
		}
	}
}

// TestP19_4Parts spoils each part of a module.
func TestP19_4Parts(t *testing.T) {
	m, text := full()
	count := 0
	spoiled(reflect.ValueOf(&m).Elem(), "module", func(path string) {
		if _, code := Print(m); code != api.ErrArgument || Printable(m) {
			t.Errorf("with another %s the error is %d", path, code)
		}
		count++
	})
	checkModule(t, m, text)
	if count < 500 {
		t.Errorf("only %d changes", count)
	}
}

func TestP19_4Length(t *testing.T) {
	// A line for a uniform has 17 bytes and its name.
	uniforms := func(length int) []api.Field {
		var fields []api.Field
		for length >= 33+18 {
			fields = append(fields, field(fmt.Sprintf("u%015d", len(fields)), fixedType))
			length -= 33
		}
		if length > 33 {
			fields = append(fields, field("u", fixedType))
			length -= 18
		}
		return append(fields, field(strings.Repeat("v", length-17), fixedType))
	}
	for _, length := range []int{100, 16000, 16382, 16383, 16384} {
		m := api.Module{Stage: api.VertexStage, Uniforms: uniforms(length - 24)}
		text, code := Print(m)
		if len(text) != length || code != api.OK || !Printable(m) {
			t.Errorf("a text of %d bytes has %d and error %d", length, len(text), code)
		}
		if read, line, code := parser.Parse(text); code != api.OK || !same(read, m) {
			t.Errorf("a text of %d bytes has line %d and error %d", length, line, code)
		}
	}
	for _, length := range []int{16385, 16386, 16400, 20000, 100000} {
		m := api.Module{Stage: api.VertexStage, Uniforms: uniforms(length - 24)}
		checkModuleError(t, m, api.ErrTooLong)
		// A part that cannot be printed comes first, wherever it is.
		m.Main = []api.Stmt{{}}
		checkModuleError(t, m, api.ErrArgument)
		m.Main, m.Stage = nil, 0
		checkModuleError(t, m, api.ErrArgument)
	}
}

func TestP19_4Limits(t *testing.T) {
	emit := api.Stmt{Kind: api.EmitStmt}
	deep := name("a")
	for depth := 1; depth <= 40; depth++ {
		nested := emit
		for range depth - 1 {
			nested = api.Stmt{Kind: api.LoopStmt, Count: 1, Body: []api.Stmt{nested}}
		}
		for _, m := range []api.Module{
			{Main: []api.Stmt{{Kind: api.IfStmt, Value: deep}}}, {Functions: []api.Function{{Name: "f", Result: intType, Return: deep}}}, {Main: []api.Stmt{nested}}, {Functions: []api.Function{{Name: "f", Result: intType, Body: []api.Stmt{nested}, Return: name("a")}}},
		} {
			m.Stage = api.VertexStage
			if depth > 16 {
				checkModuleError(t, m, api.ErrTooLong)
				m.Functions = append(m.Functions, api.Function{Name: "if", Result: intType, Return: name("a")})
				checkModuleError(t, m, api.ErrArgument)
				continue
			}
			text, code := Print(m)
			if code != api.OK || !Printable(m) {
				t.Errorf("depth %d has error %d", depth, code)
			}
			if read, line, code := parser.Parse(text); code != api.OK || !same(read, m) {
				t.Errorf("the text %q has line %d and error %d", text, line, code)
			}
		}
		deep = unary(api.OpNot, deep)
	}
	for _, nodes := range []int{998, 999, 1000, 1001, 1002, 2000} {
		for _, m := range []api.Module{
			{Main: slices.Repeat([]api.Stmt{emit}, nodes)}, {Functions: []api.Function{{Name: "f", Result: intType, Body: slices.Repeat([]api.Stmt{emit}, nodes-1), Return: name("a")}}}, {Main: []api.Stmt{{Kind: api.IfStmt, Value: call("f", slices.Repeat([]api.Expr{name("a")}, nodes-2)...)}}},
		} {
			m.Stage = api.VertexStage
			if nodes > 1000 {
				checkModuleError(t, m, api.ErrTooLong)
				m.Main = append(m.Main, api.Stmt{Kind: 10})
				checkModuleError(t, m, api.ErrArgument)
			} else if text, code := Print(m); code != api.OK || !Printable(m) {
				t.Errorf("%d nodes have error %d", nodes, code)
			} else if read, line, code := parser.Parse(text); code != api.OK || !same(read, m) {
				t.Errorf("the text of %d nodes has line %d and error %d", nodes, line, code)
			}
		}
	}
}

func (m *maker) fields(most int) []api.Field {
	var fields []api.Field
	for range m.next(most + 1) {
		fields = append(fields, field(m.name(), m.typeOf()))
	}
	return fields
}

func (m *maker) target(depth int) api.Expr {
	switch m.next(3) {
	case 0:
		if depth > 1 {
			return member(m.target(depth-1), m.name())
		}
	case 1:
		if depth > 1 {
			return index(m.target(depth-1), m.expr(depth-1))
		}
	}
	return name(m.name())
}

func (m *maker) stmts(depth, most int) []api.Stmt {
	var block []api.Stmt
	for range m.next(most + 1) {
		s := api.Stmt{Kind: api.StmtKind(1 + m.next(9))}
		switch s.Kind {
		case api.LetStmt:
			s.Name, s.Type, s.Value = m.name(), m.typeOf(), m.expr(depth)
		case api.AssignStmt:
			s.Target, s.Value = m.target(depth), m.expr(depth)
		case api.IfStmt:
			s.Value, s.Body, s.Else = m.expr(depth), m.stmts(depth-1, most-1), m.stmts(depth-1, most-1)
		case api.LoopStmt:
			s.Count, s.Body = m.next(1<<31), m.stmts(depth-1, most-1)
		}
		block = append(block, s)
	}
	return block
}

func (m *maker) module() api.Module {
	result := api.Module{Stage: api.Stage(1 + m.next(3)), Uniforms: m.fields(3), Inputs: m.fields(3), Outputs: m.fields(3)}
	for range m.next(3) {
		result.Structs = append(result.Structs, api.Struct{Name: m.name(), Fields: m.fields(3)})
	}
	for range m.next(3) {
		result.Textures = append(result.Textures, m.name())
	}
	for range m.next(3) {
		result.Buffers = append(result.Buffers, m.name())
	}
	for range m.next(3) {
		result.Functions = append(result.Functions, api.Function{Name: m.name(), Params: m.fields(3), Result: m.typeOf(), Body: m.stmts(3, 3), Return: m.expr(3)})
	}
	result.Main = m.stmts(4, 4)
	return result
}

// TestP19_5 prints arbitrary modules, and parses their texts.
func TestP19_5(t *testing.T) {
	m := maker{state: 2}
	count := 0
	for range 4000 {
		module := m.module()
		text, code := Print(module)
		if code == api.ErrTooLong && (parser.Nodes(module) > 1000 || parser.Depth(module) > 16 || expectedLength(module) > 16384) {
			continue
		}
		read, line, wrong := parser.Parse(text)
		if code != api.OK || !Printable(module) || wrong != api.OK || !same(read, module) || !parser.Equal(read, module) {
			t.Fatalf("the text\n%s of %+v has error %d, and is read as %+v, line %d, error %d", text, module, code, read, line, wrong)
		}
		if again, code := Print(read); again != text || code != api.OK {
			t.Errorf("the text\n%s becomes\n%s", text, again)
		}
		count++
	}
	if count < 3000 {
		t.Errorf("only %d modules are small enough", count)
	}
	module, text := full()
	if read, _, _ := parser.Parse(text); !same(read, module) {
		t.Errorf("the text\n%s is read as %+v", text, read)
	}
}

// expectedLength returns the number of bytes of the lines of statements, without the declarations.
func expectedLength(m api.Module) int {
	length := 0
	for _, s := range m.Main {
		text, _ := Stmt(s, 1)
		length += len(text)
	}
	return length
}

// TestP19_5Tokens prints a module whose text has more tokens than the parser reads.
func TestP19_5Tokens(t *testing.T) {
	m := api.Module{Stage: api.VertexStage, Structs: slices.Repeat([]api.Struct{{Name: "a"}}, 998)}
	text := "shader vertex;\n" + strings.Repeat("struct a {\n}\n", 998) + "main {\n}\n"
	checkModule(t, m, text)
	if read, line, code := parser.Parse(text); code != api.OK || !same(read, m) {
		t.Errorf("3998 tokens have line %d and error %d", line, code)
	}
	m.Structs = append(m.Structs, api.Struct{Name: "a"})
	checkModule(t, m, "shader vertex;\n"+strings.Repeat("struct a {\n}\n", 999)+"main {\n}\n")
	if text, _ := Print(m); text != "" {
		if _, _, code := parser.Parse(text); code != api.ErrFull {
			t.Errorf("4002 tokens have error %d", code)
		}
	}
}
