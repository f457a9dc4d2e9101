package printer

import (
	"fmt"
	"math"
	"reflect"
	"regexp"
	"slices"
	"strings"
	"testing"

	"frustum/api"
	"frustum/format"
)

// number, integer, boolean, name, unary, binary, call, member and index return expressions.
func number(value int) api.Expr {
	return api.Expr{Kind: api.NumberExpr, Value: value}
}

func integer(value int) api.Expr {
	return api.Expr{Kind: api.IntExpr, Value: value}
}

func boolean(value int) api.Expr {
	return api.Expr{Kind: api.BoolExpr, Value: value}
}

func name(name string) api.Expr {
	return api.Expr{Kind: api.NameExpr, Name: name}
}

func unary(op api.Operator, arg api.Expr) api.Expr {
	return api.Expr{Kind: api.UnaryExpr, Op: op, Args: []api.Expr{arg}}
}

func binary(op api.Operator, a, b api.Expr) api.Expr {
	return api.Expr{Kind: api.BinaryExpr, Op: op, Args: []api.Expr{a, b}}
}

func call(name string, args ...api.Expr) api.Expr {
	return api.Expr{Kind: api.CallExpr, Name: name, Args: args}
}

func member(arg api.Expr, name string) api.Expr {
	return api.Expr{Kind: api.MemberExpr, Name: name, Args: []api.Expr{arg}}
}

func index(a, b api.Expr) api.Expr {
	return api.Expr{Kind: api.IndexExpr, Args: []api.Expr{a, b}}
}

// Types, and fields with them.
var (
	fixedType = api.Type{Kind: api.FixedType}
	halfType  = api.Type{Kind: api.HalfType}
	intType   = api.Type{Kind: api.IntType}
	boolType  = api.Type{Kind: api.BoolType}
	vec2Type  = api.Type{Kind: api.Vec2Type}
	vec3Type  = api.Type{Kind: api.Vec3Type}
	vec4Type  = api.Type{Kind: api.Vec4Type}
)

func structType(name string) api.Type {
	return api.Type{Kind: api.StructType, Name: name}
}

func field(name string, t api.Type) api.Field {
	return api.Field{Name: name, Type: t}
}

// keywords and typeWords return the words that are not names.
func keywords() []string {
	return strings.Fields("shader vertex geometry fragment struct uniform texture buffer in out fn return main let if else loop break continue discard emit cut true false fixed half int bool vec2 vec3 vec4")
}

func typeWords() []string {
	return strings.Fields("fixed half int bool vec2 vec3 vec4")
}

var nameRule = regexp.MustCompile(`^[A-Za-z_][A-Za-z0-9_]{0,15}$`)

// isExpectedName reports whether a text is a name.
func isExpectedName(s string) bool {
	return nameRule.MatchString(s) && !slices.Contains(keywords(), s)
}

// names and noNames return texts that are names, and others.
func names() []string {
	return []string{"a", "z", "_", "A", "Z9", "_1", "position", "min", "sample", "vec5", "Fixed", "main_", "ifs", "a123456789012345", "________________"}
}

func noNames() []string {
	return append(keywords(), "", "0", "9a", "1.5", "a b", " a", "a ", "a.b", "a-b", "a\n", "\n", "é", "aé", "#", "a#", "@", "a\x00", "\xff", "(", "a1234567890123456", strings.Repeat("a", 17), strings.Repeat("b", 20000))
}

// signs and precedences are those of the operators, by their numbers.
func signs() []string {
	return strings.Split(" + - * / % & | ^ << >> < <= > >= == != - !", " ")
}

func precedences() []int {
	return []int{0, 6, 6, 7, 7, 7, 3, 1, 2, 5, 5, 4, 4, 4, 4, 4, 4, 8, 8}
}

// operators returns the binary operators.
func operators() []api.Operator {
	var result []api.Operator
	for op := api.OpAdd; op <= api.OpNotEqual; op++ {
		result = append(result, op)
	}
	return result
}

// expectedExpr returns the text of an expression, rule by rule of P19.2, and whether there is one.
func expectedExpr(e api.Expr) (string, bool) {
	var args []string
	for _, arg := range e.Args {
		text, ok := expectedExpr(arg)
		if !ok {
			return "", false
		}
		args = append(args, text)
	}
	// used are the fields that a kind uses, without its arguments.
	used, text, count := api.Expr{Kind: e.Kind}, "", 0
	ok := true
	switch e.Kind {
	case 1:
		used.Value, text = e.Value, format.FormatFixed(e.Value)
		ok = e.Value >= 0 && e.Value <= 536870911
	case 2:
		used.Value, text = e.Value, fmt.Sprint(e.Value)
		ok = e.Value >= 0 && e.Value <= 2147483647
	case 3:
		used.Value, text = e.Value, map[int]string{0: "false", 1: "true"}[e.Value]
		ok = text != ""
	case 4:
		used.Name, text = e.Name, e.Name
		ok = isExpectedName(e.Name)
	case 5:
		used.Op, count = e.Op, 1
		ok = len(args) == 1 && (e.Op == 17 || e.Op == 18)
		if ok {
			text = signs()[e.Op] + inside(e.Args[0].Kind == 6, args[0])
		}
	case 6:
		used.Op, count = e.Op, 2
		ok = len(args) == 2 && e.Op >= 1 && e.Op <= 16
		if ok {
			text = expectedBinary(e, args)
		}
	case 7:
		used.Name, count = e.Name, len(args)
		text = e.Name + "(" + strings.Join(args, ", ") + ")"
		ok = isExpectedName(e.Name) || slices.Contains(typeWords(), e.Name)
	case 8:
		used.Name, count = e.Name, 1
		ok = len(args) == 1 && isExpectedName(e.Name)
		if ok {
			text = inside(e.Args[0].Kind == 5 || e.Args[0].Kind == 6, args[0]) + "." + e.Name
		}
	case 9:
		count = 2
		ok = len(args) == 2
		if ok {
			text = inside(e.Args[0].Kind == 5 || e.Args[0].Kind == 6, args[0]) + "[" + args[1] + "]"
		}
	default:
		ok = false
	}
	ok = ok && len(args) == count && used.Op == e.Op && used.Name == e.Name && used.Value == e.Value
	if !ok {
		return "", false
	}
	return text, true
}

// expectedBinary returns the text of a binary expression whose operands have these texts.
func expectedBinary(e api.Expr, args []string) string {
	level, left, right := precedences()[e.Op], 100, 100
	if e.Args[0].Kind == 6 {
		left = precedences()[e.Args[0].Op]
	}
	if e.Args[1].Kind == 6 {
		right = precedences()[e.Args[1].Op]
	}
	return inside(left < level || left == level && level == 4, args[0]) + " " + signs()[e.Op] + " " + inside(right <= level, args[1])
}

// inside returns a text, in parentheses if that is necessary.
func inside(necessary bool, text string) string {
	if necessary {
		return "(" + text + ")"
	}
	return text
}

// checkExpr checks the text of an expression.
func checkExpr(t *testing.T, e api.Expr, want string) {
	t.Helper()
	if got, code := Expr(e); got != want || code != api.OK {
		t.Errorf("the text of %+v is %q, %d, want %q", e, got, code, want)
	}
	if got, ok := expectedExpr(e); got != want || !ok {
		t.Errorf("the test is wrong: %q, %t instead of %q", got, ok, want)
	}
}

// checkNoExpr checks that an expression has no text, also as a part of others and of statements and functions.
func checkNoExpr(t *testing.T, e api.Expr) {
	t.Helper()
	a := name("a")
	for i, whole := range []api.Expr{e, unary(api.OpNegate, e), binary(api.OpAdd, e, a), binary(api.OpMul, a, e), call("f", e), call("f", a, e, a), member(e, "x"), index(e, a), index(a, e), unary(api.OpNot, unary(api.OpNot, e))} {
		if text, code := Expr(whole); text != "" || code != api.ErrArgument {
			t.Errorf("place %d: the text of %+v is %q, %d", i, e, text, code)
		}
	}
	if _, ok := expectedExpr(e); ok {
		t.Errorf("the test is wrong: %+v has a text", e)
	}
	for _, s := range []api.Stmt{{Kind: api.LetStmt, Name: "a", Type: intType, Value: e}, {Kind: api.AssignStmt, Target: a, Value: e}, {Kind: api.AssignStmt, Target: index(a, e), Value: a}, {Kind: api.IfStmt, Value: e}} {
		checkNoStmt(t, s)
	}
	checkNoModule(t, api.Module{Stage: api.VertexStage, Functions: []api.Function{{Name: "f", Result: intType, Return: e}}})
}

// checkStmt checks the text of a statement that is not indented; and that with any indent, of which at most 16 count.
func checkStmt(t *testing.T, s api.Stmt, want string) {
	t.Helper()
	for _, indent := range []int{0, -1, -16, math.MinInt, 1, 2, 10, 11, 12} {
		text := strings.ReplaceAll("\n"+want, "\n", "\n"+strings.Repeat("  ", max(0, indent)))
		text = strings.TrimSuffix(text, strings.Repeat("  ", max(0, indent)))[1:]
		if got, code := Stmt(s, indent); got != text || code != api.OK {
			t.Errorf("the text of %+v with the indent %d is\n%s%d, want\n%s", s, indent, got, code, text)
		}
	}
	module := "shader vertex;\nmain {\n  " + strings.TrimSuffix(strings.ReplaceAll(want, "\n", "\n  "), "  ") + "}\n"
	checkModule(t, api.Module{Stage: api.VertexStage, Main: []api.Stmt{s}}, module)
}

// checkNoStmt checks that a statement has no text, also as a part of others and of modules.
func checkNoStmt(t *testing.T, s api.Stmt) {
	t.Helper()
	a, one := name("a"), []api.Stmt{s}
	emit := api.Stmt{Kind: api.EmitStmt}
	for i, whole := range []api.Stmt{s, {Kind: api.IfStmt, Value: a, Body: one}, {Kind: api.IfStmt, Value: a, Else: one}, {Kind: api.LoopStmt, Count: 1, Body: one}, {Kind: api.LoopStmt, Body: []api.Stmt{emit, s, emit}}, {Kind: api.IfStmt, Value: a, Body: []api.Stmt{emit}, Else: []api.Stmt{emit, s}}} {
		for _, indent := range []int{0, 3, 16, 99, -1} {
			if text, code := Stmt(whole, indent); text != "" || code != api.ErrArgument {
				t.Errorf("place %d: the text of %+v is %q, %d", i, s, text, code)
			}
		}
	}
	checkNoModule(t, api.Module{Stage: api.VertexStage, Main: one})
	checkNoModule(t, api.Module{Stage: api.VertexStage, Main: []api.Stmt{emit, s, emit}})
	checkNoModule(t, api.Module{Stage: api.VertexStage, Functions: []api.Function{{Name: "f", Result: intType, Body: one, Return: a}}})
}

// checkModule checks the text of a module.
func checkModule(t *testing.T, m api.Module, want string) {
	t.Helper()
	if got, code := Print(m); got != want || code != api.OK {
		t.Errorf("the text of %+v is %d\n%s, want\n%s", m, code, got, want)
	}
	if !Printable(m) {
		t.Errorf("%+v is not printable", m)
	}
}

// checkNoModule checks that a module has a part that cannot be printed.
func checkNoModule(t *testing.T, m api.Module) {
	t.Helper()
	checkModuleError(t, m, api.ErrArgument)
}

// checkModuleError checks that a module has no text.
func checkModuleError(t *testing.T, m api.Module, want api.Errno) {
	t.Helper()
	if text, code := Print(m); text != "" || code != want {
		t.Errorf("the text of %+v is %.200q, %d, want error %d", m, text, code, want)
	}
	if Printable(m) {
		t.Errorf("%+v is printable", m)
	}
}

// same reports whether two values are equal in all fields, where a nil slice is equal to an empty one.
func same(a, b any) bool {
	return fmt.Sprintf("%+v", a) == fmt.Sprintf("%+v", b)
}

// withRoom returns a copy of a value in which each slice has elements behind its length.
func withRoom(v reflect.Value) reflect.Value {
	result := reflect.New(v.Type()).Elem()
	switch v.Kind() {
	case reflect.Slice:
		room := reflect.MakeSlice(v.Type(), 0, v.Len()+2)
		for i := range v.Len() {
			room = reflect.Append(room, withRoom(v.Index(i)))
		}
		result.Set(room)
		for i := range 2 {
			if v.Len() > 0 {
				room.Slice(0, room.Cap()).Index(v.Len() + i).Set(v.Index(i % v.Len()))
			}
		}
	case reflect.Struct:
		for i := range v.NumField() {
			result.Field(i).Set(withRoom(v.Field(i)))
		}
	default:
		result.Set(v)
	}
	return result
}

// memory returns a text with all of a value, and with what is behind the lengths of its slices.
func memory(v reflect.Value) string {
	switch v.Kind() {
	case reflect.Slice:
		text := fmt.Sprint("(", v.Len(), ":")
		for i := range v.Cap() {
			text += memory(v.Slice(0, v.Cap()).Index(i)) + ","
		}
		return text + ")"
	case reflect.Struct:
		text := "{"
		for i := range v.NumField() {
			text += memory(v.Field(i)) + ";"
		}
		return text + "}"
	}
	return fmt.Sprintf("%q", fmt.Sprint(v.Interface()))
}

// TestP19_4Arguments checks that the functions change nothing of a module, also behind the lengths of its slices.
func TestP19_4Arguments(t *testing.T) {
	whole, _ := full()
	m := withRoom(reflect.ValueOf(whole)).Interface().(api.Module)
	before := memory(reflect.ValueOf(m))
	first, _ := Print(m)
	Printable(m)
	for _, s := range m.Main {
		Stmt(s, 3)
		Expr(s.Value)
	}
	if second, code := Print(m); first != second || code != api.OK || memory(reflect.ValueOf(m)) != before {
		t.Error("a function changed its argument")
	}
}
