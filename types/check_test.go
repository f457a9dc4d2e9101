package types

import (
	"fmt"
	"math"
	"slices"
	"strings"
	"testing"

	"frustum/api"
	"frustum/lexer"
)

// checkModule checks the first error of a module, and that the oracle of the tests agrees.
func checkModule(t *testing.T, what string, m api.Module, want api.Errno) {
	t.Helper()
	if got := Check(m); got != want {
		t.Errorf("%s: the error is %d, want %d", what, got, want)
	}
	if got := expectedCheck(m); got != want {
		t.Errorf("%s: the oracle is wrong: the error is %d, want %d", what, got, want)
	}
}

// errorNames are the errors by their names in tests.
var errorNames = map[string]api.Errno{"OK": api.OK, "ErrKind": api.ErrKind, "ErrTooLong": api.ErrTooLong, "ErrName": api.ErrName, "ErrCount": api.ErrCount, "ErrType": api.ErrType, "ErrRange": api.ErrRange}

// checkModuleText checks the first error of a module with a text.
func checkModuleText(t *testing.T, text, want string) {
	t.Helper()
	code, found := errorNames[want]
	if !found {
		t.Fatalf("the test is wrong: %q", want)
	}
	checkModule(t, text, parse(t, text), code)
}

func TestP20_3Stages(t *testing.T) {
	for stage := api.Stage(-2); stage <= 6; stage++ {
		want := api.ErrKind
		if stage >= 1 && stage <= 3 {
			want = api.OK
		}
		checkModule(t, "an empty module", api.Module{Stage: stage}, want)
	}
	for _, stage := range []api.Stage{math.MinInt, -1 << 32, 1<<32 + 1, math.MaxInt} {
		checkModule(t, "an empty module", api.Module{Stage: stage}, api.ErrKind)
	}
	checkModuleText(t, "shader vertex; in a: vec4; out position: vec4; main { position = a; }", "OK")
	checkModuleText(t, "shader geometry; in a: vec4; out position: vec4; main { position = a; emit; cut; loop 3 { emit; } }", "OK")
	checkModuleText(t, "shader fragment; in a: vec4; out color: vec4; main { if (a.x < 0.5) { discard; } color = ddx(a); }", "OK")
	checkModuleText(t, "shader vertex; in a: vec4; out color: vec4; main { color = ddx(a); }", "ErrKind")
}

// TestP20_3Limits has modules with each number of declarations, up to those that are too many.
func TestP20_3Limits(t *testing.T) {
	for count := range 20 {
		var m api.Module
		variables := func(t api.Type) []api.Field {
			var fields []api.Field
			for i := range count {
				fields = append(fields, field(fmt.Sprintf("x%d", i), t))
			}
			return fields
		}
		want := func(most int) api.Errno {
			if count > most {
				return api.ErrTooLong
			}
			return api.OK
		}
		for _, f := range variables(intType) {
			m.Structs = append(m.Structs, api.Struct{Name: f.Name, Fields: fieldsOf(intType)})
			m.Functions = append(m.Functions, api.Function{Name: f.Name, Result: intType, Return: integer(1)})
			m.Textures = append(m.Textures, f.Name)
		}
		what := fmt.Sprint(count)
		checkModule(t, what+" structs", api.Module{Stage: 1, Structs: m.Structs}, want(16))
		checkModule(t, what+" uniforms", api.Module{Stage: 1, Uniforms: variables(intType)}, want(16))
		checkModule(t, what+" inputs", api.Module{Stage: 1, Inputs: variables(intType)}, want(16))
		checkModule(t, what+" outputs", api.Module{Stage: 1, Outputs: variables(intType)}, want(16))
		checkModule(t, what+" functions", api.Module{Stage: 1, Functions: m.Functions}, want(16))
		checkModule(t, what+" textures", api.Module{Stage: 1, Textures: m.Textures}, want(4))
		checkModule(t, what+" buffers", api.Module{Stage: 1, Buffers: m.Textures}, want(4))
		// The numbers of components.
		checkModule(t, what+" vectors as uniforms", api.Module{Stage: 1, Uniforms: variables(vec4Type)}, want(16))
		checkModule(t, what+" vectors as inputs", api.Module{Stage: 1, Inputs: variables(vec4Type)}, want(8))
		checkModule(t, what+" vectors as outputs", api.Module{Stage: 1, Outputs: variables(vec4Type)}, want(8))
		checkModule(t, what+" small vectors as inputs", api.Module{Stage: 1, Inputs: variables(vec2Type)}, want(16))
		checkModule(t, what+" small vectors as outputs", api.Module{Stage: 1, Outputs: variables(vec2Type)}, want(16))
		checkModule(t, what+" middle vectors as outputs", api.Module{Stage: 1, Outputs: variables(vec3Type)}, want(10))
		// The number of fields and of parameters.
		code := api.OK
		if count == 0 || count > 16 {
			code = api.ErrCount
		}
		checkModule(t, what+" fields", api.Module{Stage: 1, Structs: []api.Struct{{Name: "S", Fields: variables(vec4Type)}}}, code)
		if count == 0 {
			code = api.OK
		}
		checkModule(t, what+" parameters", api.Module{Stage: 1, Functions: []api.Function{{Name: "f", Params: variables(vec4Type), Result: intType, Return: integer(1)}}}, code)
	}
}

// TestP20_3Sizes has modules with the largest numbers of components, nodes and levels, and beyond.
func TestP20_3Sizes(t *testing.T) {
	for more, want := range map[string]string{"": "OK", "uniform e: int;": "ErrTooLong"} {
		checkModuleText(t, "shader vertex; struct S { a: vec4; b: vec4; c: vec4; d: vec4; } struct T { a: S; b: S; c: S; d: vec4; e: vec4; f: vec4; g: vec3; h: bool; } uniform t: T; "+more+" main {}", want)
		checkModuleText(t, "shader vertex; struct S { a: vec4; b: vec4; c: vec4; d: vec4; } in a: S; in b: S; "+strings.Replace(more, "uniform", "in", 1)+" main {}", want)
		checkModuleText(t, "shader vertex; struct S { a: vec4; b: vec4; c: vec4; d: vec4; } out a: S; out b: S; "+strings.Replace(more, "uniform", "out", 1)+" main {}", want)
	}
	emit := api.Stmt{Kind: api.IfStmt, Value: boolean(1)}
	for nodes, want := range map[int]api.Errno{1000: api.OK, 1001: api.ErrTooLong, 2000: api.ErrTooLong} {
		f := api.Function{Name: "f", Result: intType, Return: integer(1)}
		f.Body = slices.Repeat([]api.Stmt{emit}, (nodes-1)/2)
		m := api.Module{Stage: api.GeometryStage, Functions: []api.Function{f}}
		m.Main = slices.Repeat([]api.Stmt{{Kind: api.EmitStmt}}, 1-nodes%2)
		checkModule(t, fmt.Sprint(nodes, " nodes"), m, want)
	}
	deep, nested := integer(1), emit
	for depth := 1; depth <= 20; depth++ {
		want := api.OK
		if depth > 16 {
			want = api.ErrTooLong
		}
		checkModule(t, fmt.Sprint("expressions of depth ", depth), api.Module{Stage: 1, Main: []api.Stmt{{Kind: api.LetStmt, Name: "a", Type: intType, Value: deep}}}, want)
		checkModule(t, fmt.Sprint("statements of depth ", depth), api.Module{Stage: 1, Main: []api.Stmt{nested}}, want)
		deep, nested = unary(api.OpNot, deep), api.Stmt{Kind: api.IfStmt, Value: boolean(0), Body: []api.Stmt{nested}}
	}
}

// fault is an error of a declaration, a statement or an expression in a module that has none.
type fault struct {
	what string
	code api.Errno
	put  func(m *api.Module)
}

// faults are errors in the order of the chapter. Each one changes a part of its own of the module that faultless returns.
func faults() []fault {
	emit := api.Stmt{Kind: api.EmitStmt}
	long := api.Stmt{Kind: api.LetStmt, Name: "long", Type: vec4Type, Value: call("vec4", slices.Repeat([]api.Expr{number(1)}, 4)...)}
	return []fault{
		{"an unknown stage", api.ErrKind, func(m *api.Module) { m.Stage = 4 }},
		{"too many textures", api.ErrTooLong, func(m *api.Module) { m.Textures = append(m.Textures, "t2", "t3", "t4", "t5") }},
		{"a keyword as the name of a struct", api.ErrName, func(m *api.Module) { m.Structs[0].Name = "loop" }},
		{"a struct without fields", api.ErrCount, func(m *api.Module) { m.Structs[1].Fields = nil }},
		{"a built-in function as the name of a field", api.ErrName, func(m *api.Module) { m.Structs[2].Fields[0].Name = "min" }},
		{"an unknown type of a field", api.ErrType, func(m *api.Module) { m.Structs[2].Fields[1].Type.Kind = 9 }},
		{"a second struct with a name", api.ErrName, func(m *api.Module) { m.Structs[3].Name = "S2" }},
		{"the type of a field in its own struct", api.ErrType, func(m *api.Module) { m.Structs[4].Fields[0].Type = structType("S4") }},
		{"a uniform with the name of a struct", api.ErrName, func(m *api.Module) { m.Uniforms[0].Name = "S5" }},
		{"an unknown struct as the type of a uniform", api.ErrType, func(m *api.Module) { m.Uniforms[1].Type = structType("X") }},
		{"a texture with the name of a uniform", api.ErrName, func(m *api.Module) { m.Textures[0] = "u2" }},
		{"a buffer with the name of a struct", api.ErrName, func(m *api.Module) { m.Buffers[0] = "S5" }},
		{"an empty name of an input", api.ErrName, func(m *api.Module) { m.Inputs[0].Name = "" }},
		{"a type of an input with a name", api.ErrType, func(m *api.Module) { m.Inputs[1].Type.Name = "x" }},
		{"an output with the name of an input", api.ErrName, func(m *api.Module) { m.Outputs[0].Name = "i2" }},
		{"no type of an output", api.ErrType, func(m *api.Module) { m.Outputs[1].Type = api.Type{} }},
		{"too many components of uniforms", api.ErrTooLong, func(m *api.Module) { m.Uniforms = append(m.Uniforms, field("u8", structType("S5"))) }},
		{"a function with the name of an output", api.ErrName, func(m *api.Module) { m.Functions[0].Name = "o2" }},
		{"too many parameters", api.ErrCount, func(m *api.Module) { m.Functions[1].Params = fieldsOf(slices.Repeat([]api.Type{intType}, 17)...) }},
		{"a parameter with the name of its function", api.ErrName, func(m *api.Module) { m.Functions[2].Params[0].Name = "f2" }},
		{"an unknown type of a parameter", api.ErrType, func(m *api.Module) { m.Functions[2].Params[1].Type = structType("f2") }},
		{"an unknown type of a result", api.ErrType, func(m *api.Module) { m.Functions[3].Result = api.Type{Kind: 9} }},
		{"a loop in a function", api.ErrKind, func(m *api.Module) { m.Functions[4].Body[0] = api.Stmt{Kind: api.LoopStmt, Count: 1} }},
		{"a value that a function cannot return", api.ErrRange, func(m *api.Module) { m.Functions[5].Return = integer(-1) }},
		{"a variable with the name of an output", api.ErrName, func(m *api.Module) { m.Main[0].Name = "o2" }},
		{"an unknown type of a variable", api.ErrType, func(m *api.Module) { m.Main[1].Type.Kind = 0 }},
		{"a value that is none", api.ErrKind, func(m *api.Module) { m.Main[2].Value.Kind = 0 }},
		{"a value of another type", api.ErrType, func(m *api.Module) { m.Main[3].Value = number(1) }},
		{"a target that is none", api.ErrKind, func(m *api.Module) { m.Main[4].Target = integer(1) }},
		{"a target that does not exist", api.ErrName, func(m *api.Module) { m.Main[5].Target.Name = "x" }},
		{"a uniform as a target", api.ErrName, func(m *api.Module) { m.Main[6].Target.Name = "u2" }},
		{"a value with too few arguments", api.ErrCount, func(m *api.Module) { m.Main[7].Value = call("min") }},
		{"a wrong type of a value", api.ErrType, func(m *api.Module) { m.Main[8].Value = boolean(1) }},
		{"a condition of another type", api.ErrType, func(m *api.Module) { m.Main[9].Value = integer(1) }},
		{"an error in a body", api.ErrRange, func(m *api.Module) { m.Main[10].Body = []api.Stmt{{Kind: api.LoopStmt}} }},
		{"an error in another branch", api.ErrKind, func(m *api.Module) { m.Main[11].Else = []api.Stmt{emit} }},
		{"a loop that is too long", api.ErrRange, func(m *api.Module) { m.Main[12].Count = 17 }},
		{"loops that are too deep", api.ErrTooLong, func(m *api.Module) {
			three := api.Stmt{Kind: api.LoopStmt, Count: 1, Body: []api.Stmt{{Kind: api.LoopStmt, Count: 1, Body: []api.Stmt{{Kind: api.LoopStmt, Count: 1}}}}}
			m.Main[13].Body = []api.Stmt{three}
		}},
		{"a break outside of loops", api.ErrKind, func(m *api.Module) { m.Main[14] = api.Stmt{Kind: api.BreakStmt} }},
		{"an unknown statement", api.ErrKind, func(m *api.Module) { m.Main[15].Kind = 10 }},
		{"too much weight", api.ErrTooLong, func(m *api.Module) {
			m.Main[16].Body = nil
			for i := range 60 {
				long.Name = fmt.Sprintf("long%d", i)
				m.Main[16].Body = append(m.Main[16].Body, long)
			}
		}},
	}
}

// faultless returns a module without an error, with parts that are spoiled one by one.
func faultless() api.Module {
	m := api.Module{Stage: api.FragmentStage, Textures: []string{"t0", "t1"}, Buffers: []string{"b0"}}
	for i := range 5 {
		m.Structs = append(m.Structs, api.Struct{Name: fmt.Sprintf("S%d", i), Fields: fieldsOf(intType, vec2Type)})
	}
	m.Structs = append(m.Structs, api.Struct{Name: "S5", Fields: fieldsOf(slices.Repeat([]api.Type{vec4Type}, 16)...)})
	for i := range 3 {
		m.Uniforms = append(m.Uniforms, field(fmt.Sprintf("u%d", i), intType))
		m.Inputs = append(m.Inputs, field(fmt.Sprintf("i%d", i), vec2Type))
		m.Outputs = append(m.Outputs, field(fmt.Sprintf("o%d", i), intType))
	}
	for i := range 6 {
		m.Functions = append(m.Functions, api.Function{Name: fmt.Sprintf("f%d", i), Params: []api.Field{field("p", intType), field("q", boolType)}, Result: intType, Body: []api.Stmt{{Kind: api.IfStmt, Value: boolean(1)}}, Return: integer(1)})
	}
	for i := range 4 {
		m.Main = append(m.Main, api.Stmt{Kind: api.LetStmt, Name: fmt.Sprintf("v%d", i), Type: intType, Value: integer(1)})
	}
	for range 5 {
		m.Main = append(m.Main, api.Stmt{Kind: api.AssignStmt, Target: name("o2"), Value: integer(1)})
	}
	for range 3 {
		m.Main = append(m.Main, api.Stmt{Kind: api.IfStmt, Value: boolean(1)})
	}
	m.Main = append(m.Main, api.Stmt{Kind: api.LoopStmt, Count: 2}, api.Stmt{Kind: api.LoopStmt, Count: 2}, api.Stmt{Kind: api.DiscardStmt}, api.Stmt{Kind: api.DiscardStmt}, api.Stmt{Kind: api.LoopStmt, Count: 16})
	return m
}

// TestP20_3Pairs puts each error, and each pair of errors, into a module.
func TestP20_3Pairs(t *testing.T) {
	checkModule(t, "no fault", faultless(), api.OK)
	all := faults()
	for i, first := range all {
		m := faultless()
		first.put(&m)
		checkModule(t, first.what, m, first.code)
		for _, second := range all[i+1:] {
			m := faultless()
			first.put(&m)
			second.put(&m)
			checkModule(t, first.what+", then "+second.what, m, first.code)
			m = faultless()
			second.put(&m)
			first.put(&m)
			checkModule(t, second.what+", after "+first.what, m, first.code)
		}
	}
}

// TestP20_3Names gives each declaration names that are valid, that are not, and that are used.
func TestP20_3Names(t *testing.T) {
	places := map[string]func(m *api.Module, name string){
		"struct":    func(m *api.Module, name string) { m.Structs[5].Name = name },
		"field":     func(m *api.Module, name string) { m.Structs[5].Fields[3].Name = name },
		"uniform":   func(m *api.Module, name string) { m.Uniforms[2].Name = name },
		"texture":   func(m *api.Module, name string) { m.Textures[1] = name },
		"buffer":    func(m *api.Module, name string) { m.Buffers[0] = name },
		"input":     func(m *api.Module, name string) { m.Inputs[2].Name = name },
		"output":    func(m *api.Module, name string) { m.Outputs[1].Name = name },
		"function":  func(m *api.Module, name string) { m.Functions[5].Name = name },
		"parameter": func(m *api.Module, name string) { m.Functions[3].Params[1].Name = name },
		"local":     func(m *api.Module, name string) { m.Functions[3].Body[0] = let(name) },
		"variable":  func(m *api.Module, name string) { m.Main[3].Name = name },
		"inner":     func(m *api.Module, name string) { m.Main[12].Body = []api.Stmt{let(name)} },
	}
	valid := []string{"a", "_", "Z9", "vec5", "position", "a123456789012345", "minimum", "Min", "s", "x", "xyzw", "fixed_", "Loop"}
	invalid := []string{"", "1", "9a", "a b", "a.b", "é", "a123456789012345x", strings.Repeat("a", 100), "min", "max", "clamp", "abs", "floor", "fract", "sqrt", "dot", "mix", "sample", "fetch", "load", "ddx", "ddy", "\x00", "a\n"}
	for _, word := range strings.Fields("shader vertex geometry fragment struct uniform texture buffer in out fn return main let if else loop break continue discard emit cut true false fixed half int bool vec2 vec3 vec4") {
		if !lexer.IsKeyword(word) {
			t.Fatalf("the test is wrong: %q", word)
		}
		invalid = append(invalid, word)
	}
	for place, put := range places {
		for _, name := range valid {
			m := faultless()
			put(&m, name)
			checkModule(t, place+" "+name, m, api.OK)
		}
		for _, name := range invalid {
			m := faultless()
			put(&m, name)
			checkModule(t, place+" "+name, m, api.ErrName)
		}
		// A name may be used by what is declared later, and by fields and parameters of others; the oracle knows which.
		for _, name := range []string{"S0", "S5", "f2", "f0", "u0", "u2", "t0", "t1", "b0", "i0", "i2", "o0", "o1", "o2", "f3", "f4", "f5", "p", "q", "v0", "v3"} {
			m := faultless()
			put(&m, name)
			checkModule(t, place+" "+name, m, expectedCheck(m))
		}
	}
}

// let returns the declaration of a variable.
func let(name string) api.Stmt {
	return api.Stmt{Kind: api.LetStmt, Name: name, Type: intType, Value: integer(1)}
}

// TestP20_3Used gives names twice, in all pairs of places.
func TestP20_3Used(t *testing.T) {
	for text, want := range map[string]string{
		"struct a { x: int; } struct a { x: int; }": "ErrName", "struct a { x: int; x: int; }": "ErrName", "struct a { a: int; }": "OK", "struct a { x: int; } struct b { x: int; a: int; }": "OK",
		"struct a { x: int; } uniform a: int;": "ErrName", "struct a { x: int; } uniform x: int;": "OK", "uniform a: int; uniform a: int;": "ErrName", "uniform a: int; texture a;": "ErrName", "texture a; texture a;": "ErrName", "texture a; buffer a;": "ErrName", "buffer a; buffer a;": "ErrName", "buffer a; in a: int;": "ErrName", "in a: int; in a: int;": "ErrName", "in a: int; out a: int;": "ErrName", "out a: int; out a: int;": "ErrName", "struct a { x: int; } out a: int;": "ErrName", "uniform a: int; out a: int;": "ErrName", "texture a; out a: int;": "ErrName",
		"out a: int; fn a() -> int { return 1; }": "ErrName", "fn a() -> int { return 1; } fn a() -> int { return 1; }": "ErrName", "struct a { x: int; } fn a() -> int { return 1; }": "ErrName", "buffer a; fn a() -> int { return 1; }": "ErrName", "in a: int; fn a() -> int { return 1; }": "ErrName", "uniform a: int; fn a() -> int { return 1; }": "ErrName", "texture a; fn a() -> int { return 1; }": "ErrName",
		"fn f(a: int, a: int) -> int { return 1; }": "ErrName", "fn f(f: int) -> int { return 1; }": "ErrName", "fn f(a: int) -> int { return 1; } fn g(a: int) -> int { return 1; }": "OK", "fn f(a: int) -> int { return 1; } fn a() -> int { return 1; }": "OK", "fn f(g: int) -> int { return 1; } fn g() -> int { return 1; }": "OK", "fn f() -> int { return 1; } fn g(f: int) -> int { return 1; }": "ErrName",
		"out a: int; fn f(a: int) -> int { return 1; }": "ErrName", "in a: int; fn f(a: int) -> int { return 1; }": "ErrName", "uniform a: int; fn f(a: int) -> int { return 1; }": "ErrName", "texture a; fn f(a: int) -> int { return 1; }": "ErrName", "buffer a; fn f(a: int) -> int { return 1; }": "ErrName", "struct a { x: int; } fn f(a: int) -> int { return 1; }": "ErrName",
		// A variable of a function may have the name of an output, of the function itself or of a later one.
		"out a: int; fn f() -> int { let a: int = 1; return a; }": "OK", "fn f() -> int { let f: int = 1; return f; }": "OK", "fn f() -> int { let g: int = 1; return g; } fn g() -> int { return 1; }": "OK", "fn f() -> int { return 1; } fn g() -> int { let f: int = 1; return f; }": "ErrName", "in a: int; fn f() -> int { let a: int = 1; return a; }": "ErrName", "uniform a: int; fn f() -> int { let a: int = 1; return a; }": "ErrName", "texture a; fn f() -> int { let a: int = 1; return a; }": "ErrName", "buffer a; fn f() -> int { let a: int = 1; return a; }": "ErrName", "struct a { x: int; } fn f() -> int { let a: int = 1; return a; }": "ErrName", "fn f(a: int) -> int { let a: int = 1; return a; }": "ErrName", "fn f() -> int { let a: int = 1; let a: int = 1; return a; }": "ErrName", "out a: bool; fn f() -> int { let a: int = 1; a = 2; return a; }": "OK",
	} {
		for _, stage := range []string{"vertex", "geometry", "fragment"} {
			checkModuleText(t, "shader "+stage+"; "+text+" main {}", want)
		}
	}
	globals := "shader vertex; struct s { x: int; } uniform u: int; texture t; buffer b; in i: int; out o: int; fn f(p: int) -> int { let l: int = p; return l; } "
	for name, want := range map[string]string{"s": "ErrName", "u": "ErrName", "t": "ErrName", "b": "ErrName", "i": "ErrName", "o": "ErrName", "f": "ErrName", "p": "OK", "l": "OK", "x": "OK", "a": "OK"} {
		checkModuleText(t, globals+"main { let "+name+": int = 1; }", want)
		checkModuleText(t, globals+"main { loop 2 { if (true) { } else { let "+name+": int = 1; } } }", want)
	}
}

// TestP20_3Blocks declares variables with the same name in the same block, in enclosing ones, and in ones that have ended.
func TestP20_3Blocks(t *testing.T) {
	for text, want := range map[string]string{
		"let a: int = 1; let a: int = 2;": "ErrName", "let a: int = 1; if (true) { let a: int = 2; }": "ErrName", "let a: int = 1; if (true) { } else { let a: bool = true; }": "ErrName", "let a: int = 1; loop 1 { loop 1 { let a: int = 2; } }": "ErrName", "loop 1 { let a: int = 1; loop 1 { let a: int = 2; } }": "ErrName",
		"if (true) { let a: int = 1; } else { let a: bool = true; }": "OK", "if (true) { let a: int = 1; } let a: bool = true; if (a) { }": "OK", "loop 1 { let a: int = 1; } loop 1 { let a: bool = true; if (a) { } }": "OK", "if (true) { let a: int = 1; let b: int = a; } let b: bool = true; let a: bool = b;": "OK", "loop 1 { if (true) { let a: int = 1; } let a: int = 2; }": "OK",
		// A variable is visible up to the end of its block, and only behind its declaration.
		"let a: int = 1; let b: int = a; if (a == b) { let c: int = a; b = c; }": "OK", "if (true) { let a: int = 1; } let b: int = a;": "ErrName", "if (true) { let a: int = 1; } else { let b: int = a; }": "ErrName", "loop 1 { let a: int = 1; } a = 2;": "ErrName", "let b: int = a; let a: int = 1;": "ErrName", "let a: int = a;": "ErrName", "a = 1; let a: int = 1;": "ErrName", "loop 1 { b = 1; let b: int = 1; }": "ErrName", "if (a) { let a: bool = true; }": "ErrName", "loop 1 { let a: int = 1; } let c: int = 2; loop 1 { let b: int = c; let a: int = b; b = a; }": "OK",
		"let a: int = 1; loop 1 { let b: int = a; } loop 1 { let b: int = a; a = b; } a = 3;": "OK", "if (true) { if (true) { let a: int = 1; } let b: int = 1; a = b; }": "ErrName",
	} {
		for _, stage := range []string{"vertex", "geometry", "fragment"} {
			checkModuleText(t, "shader "+stage+"; main { "+text+" }", want)
			checkModuleText(t, "shader "+stage+"; uniform on: bool; main { if (on) { "+text+" } }", want)
		}
		if !strings.Contains(text, "loop") {
			checkModuleText(t, "shader vertex; fn f() -> int { "+text+" return 1; } main {}", want)
			checkModuleText(t, "shader vertex; fn f(p: int) -> int { if (p < 1) { "+text+" } return p; } main {}", want)
		}
	}
	for text, want := range map[string]string{"let a: int = 1; return a;": "OK", "if (true) { let a: int = 1; } return a;": "ErrName", "return p;": "OK", "return o;": "ErrName", "return u + i;": "OK", "let a: bool = true; return a;": "ErrType", "return 1 + true;": "ErrType", "return f(1);": "ErrName", "return g();": "ErrName", "return e();": "OK", "return x;": "ErrName", "let o: int = 1; o = 2; return o;": "OK", "o = 1; return 1;": "ErrName", "return load(b, p);": "OK", "let e: int = 1; return e;": "ErrName"} {
		checkModuleText(t, "shader fragment; uniform u: int; buffer b; in i: int; out o: int; fn e() -> int { return 1; } fn f(p: int) -> int { "+text+" } fn g() -> int { return f(1); } main {}", want)
	}
}

// TestP20_3Types declares variables of each type at each place.
func TestP20_3Types(t *testing.T) {
	structs := []api.Struct{{Name: "A", Fields: fieldsOf(intType)}, {Name: "B", Fields: fieldsOf(structType("A"))}}
	types := map[api.Type]bool{{}: false, {Kind: -1}: false, {Kind: 9}: false, {Kind: math.MaxInt}: false, {Kind: math.MinInt}: false, {Kind: api.IntType, Name: "A"}: false, {Kind: api.Vec2Type, Name: "x"}: false, {Name: "A"}: false, {Kind: 9, Name: "A"}: false, structType("A"): true, structType("B"): true, structType("C"): false, structType(""): false, structType("a"): false, structType("f"): false}
	for _, of := range simpleTypes() {
		types[of] = true
	}
	for of, valid := range types {
		want := api.ErrType
		if valid {
			want = api.OK
		}
		base := api.Module{Stage: 1, Structs: structs}
		a := []api.Field{field("a", of)}
		for what, m := range map[string]api.Module{"uniform": {Uniforms: a}, "input": {Inputs: a}, "output": {Outputs: a}, "parameter": {Functions: []api.Function{{Name: "f", Params: a, Result: intType, Return: integer(1)}}}, "result": {Functions: []api.Function{{Name: "f", Params: []api.Field{field("p", of)}, Result: of, Return: name("p")}}}} {
			m.Stage, m.Structs = base.Stage, base.Structs
			checkModule(t, what+" of "+wordOf(of), m, want)
		}
		m := base
		m.Structs = append(slices.Clone(structs), api.Struct{Name: "C", Fields: a}, api.Struct{Name: "D", Fields: fieldsOf(structType("C"))})
		checkModule(t, "field of "+wordOf(of), m, want)
		m = base
		m.Uniforms = []api.Field{field("u", intType)}
		m.Main = []api.Stmt{{Kind: api.LetStmt, Name: "a", Type: of, Value: name("u")}}
		if of == intType {
			checkModule(t, "variable of "+wordOf(of), m, api.OK)
		} else {
			checkModule(t, "variable of "+wordOf(of), m, api.ErrType)
		}
	}
	checkModuleText(t, "shader vertex; struct A { b: B; } struct B { x: int; } main {}", "ErrType")
	checkModuleText(t, "shader vertex; struct A { a: A; } main {}", "ErrType")
	checkModuleText(t, "shader vertex; struct B { x: int; } struct A { b: B; } main {}", "OK")
	checkModuleText(t, "shader vertex; uniform a: A; struct A { x: int; } main {}", "OK")
}

// TestP20_3Statements has each kind of statement at each place, with each error.
func TestP20_3Statements(t *testing.T) {
	globals := "struct S { v: vec3; n: int; } uniform u: int; uniform w: vec2; in i: vec4; in s: S; out o: vec4; out n: int; out q: S; texture t; fn f(p: int) -> int { return p; }"
	for text, want := range map[string]string{
		"let a: int = 1;": "OK", "let a: int = 1.0;": "ErrType", "let a: int = x;": "ErrName", "let a: X = 1;": "ErrType", "let a: X = x;": "ErrType", "let min: X = x;": "ErrName", "let a: int = 1 + true;": "ErrType", "let a: bool = min(1);": "ErrCount", "let a: S = S(i.xyz, 1);": "ErrName", "let a: S = S(vec3(1.0, 2.0, 3.0), 1);": "OK", "let a: S = s;": "OK", "let t: int = 1;": "ErrName", "let a: vec4 = o;": "OK", "let a: int = f(u);": "OK", "let a: fixed = f(u);": "ErrType",
		"o = i;": "OK", "o.x = 1.0;": "OK", "o[u] = 1.0;": "OK", "o[n] = o[0];": "OK", "q.v = vec3(1.0, 1.0, 1.0);": "OK", "q.v.x = 0.5;": "OK", "q.v[q.n] = 0.5;": "OK", "q.n = n;": "OK", "q = s;": "OK", "q = q;": "OK", "let a: S = s; a.v[0] = 1.0; a = q;": "OK", "let a: vec2 = w; a = w; a.y = a.x;": "OK",
		"o = 1;": "ErrType", "o.x = 1;": "ErrType", "o.q = 1.0;": "ErrName", "o[1.0] = 1.0;": "ErrType", "o[x] = 1.0;": "ErrName", "n.x = 1;": "ErrType", "q.x = 1;": "ErrName", "n[0] = 1;": "ErrType", "x = 1;": "ErrName", "x.y = 1;": "ErrName", "o = x;": "ErrName", "o = min(1);": "ErrCount", "t = 1;": "ErrName", "f = 1;": "ErrName", "S = 1;": "ErrName",
		// Uniforms and inputs are no targets, whatever the value is; but the error of the target comes first.
		"u = 1;": "ErrName", "w.x = 1.0;": "ErrName", "i = i;": "ErrName", "i[0] = 1.0;": "ErrName", "s.v.x = 1.0;": "ErrName", "u = x;": "ErrName", "u = 1.0;": "ErrName", "u = min(1);": "ErrName", "i[1.0] = 1.0;": "ErrType", "u.x = 1;": "ErrType", "i[1 + true] = 1.0;": "ErrType", "i[min(1)] = 1.0;": "ErrCount", "w.z = 1.0;": "ErrName",
		"1 = 1;": "ErrKind", "true = false;": "ErrKind", "1.5 = 1.5;": "ErrKind", "f(1) = 1;": "ErrKind", "f(1).x = 1;": "ErrKind", "(n + 1) = 1;": "ErrKind", "(-o).x = 1.0;": "ErrKind", "S(i) = 1;": "ErrKind", "vec2(1.0, 1.0).x = 1.0;": "ErrKind", "f(x)[y] = z;": "ErrKind", "(u) = 1;": "ErrName", "(n) = 1;": "OK", "x() = 1;": "ErrKind",
		"if (true) { }": "OK", "if (u == 1) { n = 1; } else { n = 2; }": "OK", "if (u) { }": "ErrType", "if (1.0) { }": "ErrType", "if (x) { }": "ErrName", "if (i) { x = 1; }": "ErrType", "if (true) { x = 1; } else { n = true; }": "ErrName", "if (true) { n = true; } else { x = 1; }": "ErrType", "if (true) { } else { n = 1 + true; }": "ErrType", "if (true) { } else { if (false) { } else { min = 1; } }": "ErrName", "if (s) { }": "ErrType",
		"loop 1 { }": "OK", "loop 16 { }": "OK", "loop 0 { }": "ErrRange", "loop 17 { }": "ErrRange", "loop 2147483647 { }": "ErrRange", "loop 1 { x = 1; }": "ErrName", "loop 0 { x = 1; }": "ErrRange", "loop 1 { loop 1 { loop 1 { } } }": "OK", "loop 1 { loop 1 { loop 1 { loop 1 { } } } }": "ErrTooLong", "loop 1 { loop 1 { loop 1 { loop 0 { } } } }": "ErrRange", "loop 1 { loop 1 { loop 1 { loop 1 { x = 1; } } } }": "ErrTooLong", "loop 1 { loop 1 { loop 1 { if (true) { loop 1 { } } } } }": "ErrTooLong", "loop 1 { loop 1 { loop 1 { } loop 1 { } } loop 1 { loop 1 { } } } loop 1 { loop 1 { loop 1 { } } }": "OK", "if (true) { loop 1 { if (true) { loop 1 { if (true) { loop 1 { } } } } } }": "OK",
		"break;": "ErrKind", "continue;": "ErrKind", "loop 1 { break; }": "OK", "loop 1 { continue; }": "OK", "loop 1 { if (true) { break; } else { continue; } }": "OK", "loop 1 { } break;": "ErrKind", "loop 1 { loop 1 { } break; }": "OK", "if (true) { break; }": "ErrKind", "if (true) { } else { continue; }": "ErrKind", "loop 1 { loop 1 { } } continue;": "ErrKind", "loop 1 { break; break; n = 1; }": "OK",
		"break; x = 1;": "ErrKind", "x = 1; break;": "ErrName", "n = 1; n = 2; n = true; x = 1;": "ErrType",
	} {
		for _, stage := range []string{"vertex", "geometry", "fragment"} {
			checkModuleText(t, "shader "+stage+"; "+globals+" main { "+text+" }", want)
		}
		// In functions there are no outputs and no loops.
		if !strings.Contains(text, "loop") && !strings.ContainsAny(text, "onq") {
			checkModuleText(t, "shader vertex; "+globals+" fn g() -> int { "+text+" return 1; } main { }", want)
		}
	}
	for text, want := range map[string]string{
		"loop 1 { }": "ErrKind", "loop 0 { }": "ErrKind", "break;": "ErrKind", "continue;": "ErrKind", "if (true) { loop 1 { } }": "ErrKind", "loop 1 { x = 1; }": "ErrKind", "if (x) { loop 1 { } }": "ErrName", "p = 1;": "ErrName", "p = x;": "ErrName", "v.x = 1.0;": "ErrName", "v[0] = 1.0;": "ErrName", "v[1.0] = 1.0;": "ErrType", "let a: int = p; a = p;": "OK", "let a: vec2 = v; a.x = v.y; a[p] = 1.0;": "OK", "if (p == 1) { let a: int = 1; a = 2; p = a; }": "ErrName", "o = i;": "ErrName", "n = 1;": "ErrName", "u = 1;": "ErrName", "let a: vec4 = o;": "ErrName", "let a: vec4 = i;": "OK", "let o: int = 1; o = 2;": "OK", "let a: int = g(1, v);": "ErrName", "let a: int = f(1);": "OK", "let a: int = h();": "ErrName", "let a: vec4 = sample(t, w, 1.0);": "OK", "if (true) { discard; }": "ErrKind", "emit;": "ErrKind", "cut;": "ErrKind", "discard;": "ErrKind",
	} {
		for _, stage := range []string{"vertex", "geometry", "fragment"} {
			checkModuleText(t, "shader "+stage+"; "+globals+" fn g(p: int, v: vec2) -> int { "+text+" return p; } fn h() -> int { return 1; } main { }", want)
		}
	}
	for stage, words := range map[string]map[string]string{"vertex": {"discard": "ErrKind", "emit": "ErrKind", "cut": "ErrKind"}, "geometry": {"discard": "ErrKind", "emit": "OK", "cut": "OK"}, "fragment": {"discard": "OK", "emit": "ErrKind", "cut": "ErrKind"}} {
		for word, want := range words {
			for _, text := range []string{"@", "if (true) { @ }", "if (true) { } else { @ }", "loop 2 { @ }", "loop 1 { if (true) { @ } break; }", "@ @"} {
				checkModuleText(t, "shader "+stage+"; main { "+strings.ReplaceAll(text, "@", word+";")+" }", want)
			}
		}
	}
}

// TestP20_3Raw has statements that the parser cannot produce.
func TestP20_3Raw(t *testing.T) {
	check := func(s api.Stmt, want api.Errno) {
		t.Helper()
		for _, stage := range []api.Stage{1, 2, 3} {
			m := api.Module{Stage: stage, Outputs: []api.Field{field("o", vec2Type), field("n", intType)}}
			m.Main = []api.Stmt{s}
			checkModule(t, fmt.Sprintf("%+v", s), m, want)
			m.Main = []api.Stmt{{Kind: api.IfStmt, Value: boolean(1), Else: []api.Stmt{s}}}
			checkModule(t, fmt.Sprintf("%+v in a branch", s), m, want)
		}
	}
	o, one := name("o"), integer(1)
	for _, kind := range []api.StmtKind{math.MinInt, -1, 0, 10, 1<<32 + 1, math.MaxInt} {
		check(api.Stmt{Kind: kind}, api.ErrKind)
		check(api.Stmt{Kind: kind, Name: "a", Type: intType, Target: name("n"), Value: one, Count: 1}, api.ErrKind)
	}
	for _, count := range []int{math.MinInt, -1, 0, 17, 1 << 32, 1<<32 + 1, math.MaxInt} {
		check(api.Stmt{Kind: api.LoopStmt, Count: count}, api.ErrRange)
	}
	// Targets that cannot be parsed.
	for _, target := range []api.Expr{{}, {Kind: 99}, {Kind: 99, Args: []api.Expr{o}}, {Kind: api.MemberExpr, Name: "x"}, {Kind: api.IndexExpr}, unary(api.OpNegate, o), call("o"), index(integer(1), one), member(call("f"), "x"), member(unary(api.OpNegate, o), "x"), index(api.Expr{Kind: api.MemberExpr}, one)} {
		check(api.Stmt{Kind: api.AssignStmt, Target: target, Value: number(1)}, api.ErrKind)
		check(api.Stmt{Kind: api.AssignStmt, Target: target, Value: name("x")}, api.ErrKind)
	}
	// These are targets of a wrong kind, which is their error.
	for _, target := range []api.Expr{{Kind: api.NameExpr, Name: "o", Args: []api.Expr{one}}, {Kind: api.IndexExpr, Args: []api.Expr{o}}, {Kind: api.MemberExpr, Name: "x", Args: []api.Expr{o, o}}, {Kind: api.IndexExpr, Args: []api.Expr{o, one, one}}, index(o, api.Expr{})} {
		check(api.Stmt{Kind: api.AssignStmt, Target: target, Value: number(1)}, api.ErrKind)
	}
	check(api.Stmt{Kind: api.AssignStmt, Target: name(""), Value: one}, api.ErrName)
	check(api.Stmt{Kind: api.LetStmt, Name: "a", Type: intType}, api.ErrKind)
	check(api.Stmt{Kind: api.IfStmt}, api.ErrKind)
	check(api.Stmt{Kind: api.LetStmt, Name: "a", Type: intType, Value: integer(1 << 31)}, api.ErrRange)
	check(api.Stmt{Kind: api.LetStmt, Name: "a", Type: boolType, Value: boolean(2)}, api.ErrRange)
	// Fields that a kind does not use are not checked.
	check(api.Stmt{Kind: api.LetStmt, Name: "a", Type: intType, Value: one, Target: name("x"), Count: -1, Body: []api.Stmt{{}}, Else: []api.Stmt{{}}}, api.OK)
	check(api.Stmt{Kind: api.AssignStmt, Target: name("n"), Value: one, Name: "if", Type: api.Type{Kind: 99}, Body: []api.Stmt{{}}, Else: []api.Stmt{{}}}, api.OK)
	check(api.Stmt{Kind: api.IfStmt, Value: boolean(1), Name: "if", Target: name("x"), Count: -1}, api.OK)
	check(api.Stmt{Kind: api.LoopStmt, Count: 1, Value: name("x"), Name: "if", Else: []api.Stmt{{}}, Body: []api.Stmt{{Kind: api.BreakStmt, Value: name("x"), Body: []api.Stmt{{}}}}}, api.OK)
}

// TestP20_3Weight has modules whose weight is the largest one, and beyond.
func TestP20_3Weight(t *testing.T) {
	for _, c := range []struct {
		text   string
		weight int
	}{{"if (true) { } ", 2}, {"loop 1 { } ", 1}, {"o = u; ", 12}, {"n = 1; ", 3}, {"n = f(1); ", 6}} {
		for weight := 505; weight <= 520; weight++ {
			text := strings.Repeat(c.text, weight/c.weight) + strings.Repeat("loop 1 { } ", weight%c.weight)
			want := "OK"
			if weight > 512 {
				want = "ErrTooLong"
			}
			text = "shader vertex; uniform u: vec4; out o: vec4; out n: int; fn f(p: int) -> int { return p; } main { " + text + "}"
			if got := Weight(parse(t, text)); got != weight {
				t.Errorf("the weight of %.200q is %d, want %d", text, got, weight)
			}
			checkModuleText(t, text, want)
		}
	}
	// Functions that are not called have no weight.
	checkModuleText(t, "shader vertex; uniform u: vec4; fn f() -> vec4 { "+strings.Repeat("if (true) { } ", 400)+"return u + u + u; } main {}", "OK")
	checkModuleText(t, "shader vertex; uniform u: vec4; fn f() -> vec4 { "+strings.Repeat("if (true) { } ", 400)+"return u + u + u; } main { let a: vec4 = f(); }", "ErrTooLong")
	// Other errors come first.
	checkModuleText(t, "shader vertex; uniform u: vec4; main { "+strings.Repeat("let a: int = 1; ", 400)+"}", "ErrName")
}

// TestP20_5 checks the type of each expression of the modules that pass, by the scope at its place.
func TestP20_5(t *testing.T) {
	count := 0
	g := generator{state: 11}
	modules := []api.Module{parse(t, fragmentText()), faultless()}
	for range 1500 {
		modules = append(modules, g.module())
	}
	for _, m := range modules {
		if Check(m) != api.OK {
			continue
		}
		count++
		visitTyped(t, m, nil, m.Main)
		for _, f := range m.Functions {
			visitTyped(t, m, f.Params, append(slices.Clone(f.Body), api.Stmt{Kind: api.LetStmt, Name: "last", Type: f.Result, Value: f.Return}))
		}
	}
	if count < 500 {
		t.Errorf("only %d modules pass", count)
	}
}

// visitTyped checks that the expressions of statements have types.
func visitTyped(t *testing.T, m api.Module, scope []api.Field, block []api.Stmt) {
	t.Helper()
	scope = slices.Clone(scope)
	for _, s := range block {
		switch s.Kind {
		case api.AssignStmt:
			visitExpr(t, m, scope, s.Target)
			fallthrough
		case api.LetStmt, api.IfStmt:
			visitExpr(t, m, scope, s.Value)
		}
		if s.Kind == api.LetStmt {
			scope = append(scope, field(s.Name, s.Type))
			continue
		}
		visitTyped(t, m, scope, s.Body)
		visitTyped(t, m, scope, s.Else)
	}
}

func visitExpr(t *testing.T, m api.Module, scope []api.Field, e api.Expr) {
	t.Helper()
	of, code := ExprType(m, scope, e)
	if code != api.OK || wordOf(of) == "kind 0 \"\"" {
		t.Errorf("%s has the type %s, error %d in a module that passes", shown(e), wordOf(of), code)
	}
	for i, arg := range e.Args {
		if i > 0 || e.Kind != api.CallExpr || !slices.Contains(strings.Fields("sample fetch load ddx ddy"), e.Name) {
			visitExpr(t, m, scope, arg)
		}
	}
}
