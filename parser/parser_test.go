package parser

import (
	"fmt"
	"reflect"
	"slices"
	"strings"
	"testing"

	"frustum/api"
	"frustum/lexer"
)

// number, integer, boolean, name, unary, binary, call, member and index return expressions.
func number(value int) api.Expr {
	return api.Expr{Kind: api.NumberExpr, Value: value}
}

func integer(value int) api.Expr {
	return api.Expr{Kind: api.IntExpr, Value: value}
}

func boolean(value int) api.Expr {
	return api.Expr{Kind: api.BoolExpr, Value: value}
}

func name(name string) api.Expr {
	return api.Expr{Kind: api.NameExpr, Name: name}
}

func unary(op api.Operator, arg api.Expr) api.Expr {
	return api.Expr{Kind: api.UnaryExpr, Op: op, Args: []api.Expr{arg}}
}

func binary(op api.Operator, a, b api.Expr) api.Expr {
	return api.Expr{Kind: api.BinaryExpr, Op: op, Args: []api.Expr{a, b}}
}

func call(name string, args ...api.Expr) api.Expr {
	return api.Expr{Kind: api.CallExpr, Name: name, Args: args}
}

func member(arg api.Expr, name string) api.Expr {
	return api.Expr{Kind: api.MemberExpr, Name: name, Args: []api.Expr{arg}}
}

func index(a, b api.Expr) api.Expr {
	return api.Expr{Kind: api.IndexExpr, Args: []api.Expr{a, b}}
}

// shown returns a text for a message, cut off.
func shown(text string) string {
	if len(text) > 600 {
		return text[:300] + " ... " + text[len(text)-300:]
	}
	return text
}

// same reports whether two values are equal in all fields, where a nil slice is equal to an empty one. It does not use the functions of the package.
func same(a, b any) bool {
	return fmt.Sprintf("%+v", a) == fmt.Sprintf("%+v", b)
}

// regions returns the memory of all slices of a value, with their capacity.
func regions(v reflect.Value) [][2]uintptr {
	var result [][2]uintptr
	switch v.Kind() {
	case reflect.Slice:
		if v.Cap() > 0 {
			result = append(result, [2]uintptr{v.Pointer(), v.Pointer() + uintptr(v.Cap())*v.Type().Elem().Size()})
		}
		for i := range v.Len() {
			result = append(result, regions(v.Index(i))...)
		}
	case reflect.Struct:
		for i := range v.NumField() {
			result = append(result, regions(v.Field(i))...)
		}
	}
	return result
}

// checkApart checks that no two slices of some values share memory.
func checkApart(t *testing.T, values ...any) {
	t.Helper()
	var all [][2]uintptr
	for _, value := range values {
		all = append(all, regions(reflect.ValueOf(value))...)
	}
	slices.SortFunc(all, func(a, b [2]uintptr) int {
		if a[0] < b[0] {
			return -1
		}
		return 1
	})
	for i := range len(all) - 1 {
		if all[i][1] > all[i+1][0] {
			t.Error("slices of results share memory")
			return
		}
	}
}

// checkParse checks the module that Parse returns, and that the memory of results is their own.
func checkParse(t *testing.T, text string, want api.Module) {
	t.Helper()
	first, line, code := Parse(text)
	if !same(first, want) || line != 0 || code != api.OK {
		t.Errorf("Parse(%q) is\n%+v, %d, %d, want\n%+v", shown(text), first, line, code, want)
		return
	}
	second, _, _ := Parse(text)
	checkApart(t, first, second)
}

// checkExpr checks the expression that ParseExpr returns, and that the memory of results is their own.
func checkExpr(t *testing.T, text string, want api.Expr) {
	t.Helper()
	first, line, code := ParseExpr(text)
	if !same(first, want) || line != 0 || code != api.OK {
		t.Errorf("ParseExpr(%q) is\n%+v, %d, %d, want\n%+v", shown(text), first, line, code, want)
		return
	}
	second, _, _ := ParseExpr(text)
	checkApart(t, first, second)
}

// checkError checks the error that Parse returns.
func checkError(t *testing.T, text string, line int, code api.Errno) {
	t.Helper()
	m, gotLine, got := Parse(text)
	if !same(m, api.Module{}) || gotLine != line || got != code {
		t.Errorf("Parse(%q) is %+v, %d, %d, want line %d and error %d", shown(text), m, gotLine, got, line, code)
	}
}

// checkExprError checks the error that ParseExpr returns.
func checkExprError(t *testing.T, text string, line int, code api.Errno) {
	t.Helper()
	e, gotLine, got := ParseExpr(text)
	if !same(e, api.Expr{}) || gotLine != line || got != code {
		t.Errorf("ParseExpr(%q) is %+v, %d, %d, want line %d and error %d", shown(text), e, gotLine, got, line, code)
	}
}

// statements returns the main block of a module with this text in it, and the line and error of Parse.
func statements(text string) ([]api.Stmt, int, api.Errno) {
	m, line, code := Parse("shader vertex; main {" + text + "}")
	return m.Main, line, code
}

// checkStmt checks the statement with a text, alone, behind and in front of another one, in the body of a function, in a loop and in both branches.
func checkStmt(t *testing.T, text string, want api.Stmt) {
	t.Helper()
	emit := api.Stmt{Kind: api.EmitStmt}
	for _, c := range []struct {
		before, after string
		main          []api.Stmt
	}{
		{"", "", []api.Stmt{want}}, {"emit; ", "", []api.Stmt{emit, want}}, {"", " emit;", []api.Stmt{want, emit}}, {"emit;\n", "emit;//\n", []api.Stmt{emit, want, emit}},
		{"loop 2 {", "}", []api.Stmt{{Kind: api.LoopStmt, Count: 2, Body: []api.Stmt{want}}}},
		{"if (a) {", "} else { }", []api.Stmt{{Kind: api.IfStmt, Value: name("a"), Body: []api.Stmt{want}}}},
		{"if (a) {} else {", "}", []api.Stmt{{Kind: api.IfStmt, Value: name("a"), Else: []api.Stmt{want}}}},
	} {
		checkParse(t, "shader vertex; main {"+c.before+text+c.after+"}", api.Module{Stage: api.VertexStage, Main: c.main})
		function := api.Function{Name: "f", Result: api.Type{Kind: api.IntType}, Body: c.main, Return: integer(1)}
		checkParse(t, "shader vertex; fn f() -> int {"+c.before+text+c.after+" return 1; } main {}", api.Module{Stage: api.VertexStage, Functions: []api.Function{function}})
	}
}

// checkStmtError checks that a text is no statement, with the line of the error if it begins in line 1.
func checkStmtError(t *testing.T, text string, line int) {
	t.Helper()
	checkError(t, "shader vertex; main {"+text+"}", line, api.ErrSyntax)
	checkError(t, "shader vertex; main {\n\nemit;"+text+" emit;}", line+2, api.ErrSyntax)
	checkError(t, "shader vertex; fn f() -> int { loop 1 {\n"+text+"} return 1; } main {}", line+1, api.ErrSyntax)
}

// fixedType is the type fixed.
func fixedType() api.Type {
	return api.Type{Kind: api.FixedType}
}

// words returns all keywords that are no type words, and typeWords returns those that are.
func words() []string {
	return strings.Fields("shader vertex geometry fragment struct uniform texture buffer in out fn return main let if else loop break continue discard emit cut true false")
}

func typeWords() []string {
	return strings.Fields("fixed half int bool vec2 vec3 vec4")
}

// allTokens returns a token of each symbol of the grammar.
func allTokens() []string {
	signs := strings.Fields("( ) { } , ; : . [ ] = + - * / % & | ^ ! < > == != <= >= << >> ->")
	return slices.Concat(words(), []string{"half", "vec3"}, signs, []string{"a", "q9", "7", "0.5"})
}

// whole returns a module with each declaration, statement and kind of expression, and its text.
func whole() (api.Module, string) {
	text := `shader geometry; // a geometry shader
struct Light { color: vec3; power: half; }
struct None {
}
uniform light: Light; uniform n: int;
in a: vec4;
texture t; buffer b; texture t2; buffer b2;
out position: vec4; out done: bool;
fn first() -> fixed { return 1.5; }
fn f(x: fixed, l: Light) -> vec2 {
	let y: fixed = -x * 2.0;
	y = y + l.color.x;
	return vec2(y, first());
}
main {
	let v: vec2 = f(a.w, light);
	if (!done & n <= 3) { v[n - 1] = 0.25; } else { loop 4 { emit; cut; break; continue; } }
	if (true) { }
	position = sample(t, v, 0.0);
	discard;
}
`
	vec2, vec3, vec4, light := api.Type{Kind: api.Vec2Type}, api.Type{Kind: api.Vec3Type}, api.Type{Kind: api.Vec4Type}, api.Type{Kind: api.StructType, Name: "Light"}
	return api.Module{
		Stage:    api.GeometryStage,
		Structs:  []api.Struct{{Name: "Light", Fields: []api.Field{{Name: "color", Type: vec3}, {Name: "power", Type: api.Type{Kind: api.HalfType}}}}, {Name: "None"}},
		Uniforms: []api.Field{{Name: "light", Type: light}, {Name: "n", Type: api.Type{Kind: api.IntType}}},
		Textures: []string{"t", "t2"},
		Buffers:  []string{"b", "b2"},
		Inputs:   []api.Field{{Name: "a", Type: vec4}},
		Outputs:  []api.Field{{Name: "position", Type: vec4}, {Name: "done", Type: api.Type{Kind: api.BoolType}}},
		Functions: []api.Function{
			{Name: "first", Result: fixedType(), Return: number(98304)},
			{Name: "f", Params: []api.Field{{Name: "x", Type: fixedType()}, {Name: "l", Type: light}}, Result: vec2, Body: []api.Stmt{
				{Kind: api.LetStmt, Name: "y", Type: fixedType(), Value: binary(api.OpMul, unary(api.OpNegate, name("x")), number(131072))},
				{Kind: api.AssignStmt, Target: name("y"), Value: binary(api.OpAdd, name("y"), member(member(name("l"), "color"), "x"))},
			}, Return: call("vec2", name("y"), call("first"))},
		},
		Main: []api.Stmt{
			{Kind: api.LetStmt, Name: "v", Type: vec2, Value: call("f", member(name("a"), "w"), name("light"))},
			{Kind: api.IfStmt, Value: binary(api.OpAnd, unary(api.OpNot, name("done")), binary(api.OpLessEqual, name("n"), integer(3))),
				Body: []api.Stmt{{Kind: api.AssignStmt, Target: index(name("v"), binary(api.OpSub, name("n"), integer(1))), Value: number(16384)}},
				Else: []api.Stmt{{Kind: api.LoopStmt, Count: 4, Body: []api.Stmt{{Kind: api.EmitStmt}, {Kind: api.CutStmt}, {Kind: api.BreakStmt}, {Kind: api.ContinueStmt}}}}},
			{Kind: api.IfStmt, Value: boolean(1)},
			{Kind: api.AssignStmt, Target: name("position"), Value: call("sample", name("t"), name("v"), number(0))},
			{Kind: api.DiscardStmt},
		},
	}, text
}

// lex returns the tokens of a text that has some.
func lex(t *testing.T, text string) []api.Token {
	t.Helper()
	tokens, _, code := lexer.Lex(text)
	if code != api.OK {
		t.Fatalf("Lex(%q) is %d", shown(text), code)
	}
	return tokens
}
