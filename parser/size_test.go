package parser

import (
	"slices"
	"strings"
	"testing"

	"frustum/api"
)

// exprNodesOf, exprDepthOf, nodesOf and depthOf count as the chapter says, by lists of all expressions and statements with their depths.
func exprNodesOf(e api.Expr) int {
	return len(exprDepths(e))
}

func exprDepthOf(e api.Expr) int {
	return slices.Max(exprDepths(e))
}

// exprDepths returns the depth of each expression in e, of which the last one is e itself.
func exprDepths(e api.Expr) []int {
	var all []int
	depth := 1
	for _, arg := range e.Args {
		depths := exprDepths(arg)
		depth = max(depth, 1+depths[len(depths)-1])
		all = append(all, depths...)
	}
	return append(all, depth)
}

// stmtDepths returns the depth of each statement and expression of a block, and the greatest one of a statement.
func stmtDepths(block []api.Stmt) ([]int, int) {
	var all []int
	greatest := 0
	for _, s := range block {
		if s.Kind == api.AssignStmt {
			all = append(all, exprDepths(s.Target)...)
		}
		if s.Kind == api.LetStmt || s.Kind == api.AssignStmt || s.Kind == api.IfStmt {
			all = append(all, exprDepths(s.Value)...)
		}
		body, inBody := stmtDepths(s.Body)
		other, inOther := stmtDepths(s.Else)
		depth := 1 + max(inBody, inOther)
		all = append(slices.Concat(all, body, other), depth)
		greatest = max(greatest, depth)
	}
	return all, greatest
}

func moduleDepths(m api.Module) []int {
	all, _ := stmtDepths(m.Main)
	for _, f := range m.Functions {
		body, _ := stmtDepths(f.Body)
		all = slices.Concat(all, body, exprDepths(f.Return))
	}
	return all
}

func nodesOf(m api.Module) int {
	return len(moduleDepths(m))
}

func depthOf(m api.Module) int {
	return slices.Max(append(moduleDepths(m), 0))
}

// checkExprSize checks the numbers of nodes and levels of an expression.
func checkExprSize(t *testing.T, e api.Expr, nodes, depth int) {
	t.Helper()
	if got := ExprNodes(e); got != nodes {
		t.Errorf("%+v has %d nodes, want %d", e, got, nodes)
	}
	if got := ExprDepth(e); got != depth {
		t.Errorf("%+v has depth %d, want %d", e, got, depth)
	}
}

// checkSize checks the numbers of nodes and levels of a module.
func checkSize(t *testing.T, m api.Module, nodes, depth int) {
	t.Helper()
	if got := Nodes(m); got != nodes {
		t.Errorf("%+v has %d nodes, want %d", m, got, nodes)
	}
	if got := Depth(m); got != depth {
		t.Errorf("%+v has depth %d, want %d", m, got, depth)
	}
}

func TestP18_3Expressions(t *testing.T) {
	a := name("a")
	for _, c := range []struct {
		e            api.Expr
		nodes, depth int
	}{
		{api.Expr{}, 1, 1}, {a, 1, 1}, {number(5), 1, 1}, {integer(-1), 1, 1}, {boolean(2), 1, 1}, {call("f"), 1, 1}, {call("f", a), 2, 2}, {call("f", a, a, a), 4, 2}, {unary(api.OpNot, a), 2, 2}, {binary(api.OpAdd, a, a), 3, 2}, {member(a, "x"), 2, 2}, {index(a, a), 3, 2},
		{binary(api.OpAdd, unary(api.OpNegate, a), a), 4, 3}, {binary(api.OpAdd, a, unary(api.OpNegate, a)), 4, 3}, {call("f", a, call("g", a, call("h")), a), 6, 3}, {index(index(index(a, a), a), a), 7, 4}, {index(a, index(a, index(a, a))), 7, 4}, {binary(api.OpAdd, binary(api.OpAdd, a, a), binary(api.OpAdd, a, a)), 7, 3},
		// Arguments count for each kind.
		{api.Expr{Args: []api.Expr{{}, {}}}, 3, 2}, {api.Expr{Kind: -1, Args: []api.Expr{a}}, 2, 2}, {api.Expr{Kind: 10, Args: []api.Expr{{Kind: 99, Args: []api.Expr{{}}}}}, 3, 3}, {api.Expr{Kind: api.NumberExpr, Args: []api.Expr{a}}, 2, 2}, {api.Expr{Kind: api.NameExpr, Args: []api.Expr{a, unary(api.OpNot, a)}}, 4, 3}, {api.Expr{Kind: api.UnaryExpr}, 1, 1}, {api.Expr{Kind: api.BinaryExpr, Args: []api.Expr{a, a, a}}, 4, 2}, {api.Expr{Kind: api.BoolExpr, Args: []api.Expr{}}, 1, 1},
	} {
		checkExprSize(t, c.e, c.nodes, c.depth)
		checkSize(t, api.Module{Main: []api.Stmt{{Kind: api.LetStmt, Value: c.e}}}, c.nodes+1, c.depth)
		checkSize(t, api.Module{Functions: []api.Function{{Return: c.e}}}, c.nodes, c.depth)
	}
	deep, wide := a, api.Expr{Kind: api.CallExpr, Args: slices.Repeat([]api.Expr{a}, 50000)}
	for range 49999 {
		deep = unary(api.OpNegate, deep)
	}
	checkExprSize(t, deep, 50000, 50000)
	checkExprSize(t, wide, 50001, 2)
}

func TestP18_3Statements(t *testing.T) {
	a, deep := name("a"), unary(api.OpNot, unary(api.OpNot, unary(api.OpNot, name("a"))))
	emit := api.Stmt{Kind: api.EmitStmt}
	for _, c := range []struct {
		block        []api.Stmt
		nodes, depth int
	}{
		{nil, 0, 0}, {[]api.Stmt{}, 0, 0}, {[]api.Stmt{{}}, 1, 1}, {[]api.Stmt{emit}, 1, 1}, {[]api.Stmt{emit, emit, emit}, 3, 1},
		{[]api.Stmt{{Kind: api.LetStmt, Value: a}}, 2, 1}, {[]api.Stmt{{Kind: api.AssignStmt, Target: a, Value: a}}, 3, 1}, {[]api.Stmt{{Kind: api.IfStmt, Value: a}}, 2, 1}, {[]api.Stmt{{Kind: api.LetStmt}}, 2, 1}, {[]api.Stmt{{Kind: api.AssignStmt}}, 3, 1}, {[]api.Stmt{{Kind: api.IfStmt}}, 2, 1}, {[]api.Stmt{{Kind: api.LoopStmt}}, 1, 1},
		{[]api.Stmt{{Kind: api.LetStmt, Value: deep}}, 5, 4}, {[]api.Stmt{{Kind: api.AssignStmt, Target: deep, Value: a}}, 6, 4}, {[]api.Stmt{{Kind: api.AssignStmt, Target: a, Value: deep}}, 6, 4}, {[]api.Stmt{{Kind: api.IfStmt, Value: deep}}, 5, 4},
		// The depths of statements and expressions are not added.
		{[]api.Stmt{{Kind: api.IfStmt, Value: a, Body: []api.Stmt{{Kind: api.LetStmt, Value: deep}}}}, 7, 4}, {[]api.Stmt{{Kind: api.IfStmt, Value: a, Body: []api.Stmt{emit, emit}, Else: []api.Stmt{emit}}}, 5, 2}, {[]api.Stmt{emit, {Kind: api.LoopStmt, Body: []api.Stmt{{Kind: api.IfStmt, Value: a, Else: []api.Stmt{emit}}}}, emit}, 6, 3},
		{[]api.Stmt{{Kind: api.LoopStmt, Body: []api.Stmt{{Kind: api.LoopStmt, Body: []api.Stmt{{Kind: api.LoopStmt, Body: []api.Stmt{{Kind: api.LoopStmt, Body: []api.Stmt{emit}}}}}}}}}, 5, 5},
		// The body and the other branch count for each kind.
		{[]api.Stmt{{Kind: api.BreakStmt, Body: []api.Stmt{emit}, Else: []api.Stmt{emit, emit}}}, 4, 2}, {[]api.Stmt{{Kind: api.LetStmt, Body: []api.Stmt{emit}}}, 3, 2}, {[]api.Stmt{{Kind: api.AssignStmt, Else: []api.Stmt{{Body: []api.Stmt{emit}}}}}, 5, 3}, {[]api.Stmt{{Kind: api.LoopStmt, Else: []api.Stmt{emit}}}, 2, 2}, {[]api.Stmt{{Kind: 77, Body: []api.Stmt{emit}, Else: []api.Stmt{emit}}}, 3, 2}, {[]api.Stmt{{Kind: -1, Else: []api.Stmt{emit}}}, 2, 2},
	} {
		checkSize(t, api.Module{Main: c.block}, c.nodes, c.depth)
		checkSize(t, api.Module{Functions: []api.Function{{Body: c.block}}}, c.nodes+1, max(1, c.depth))
		checkSize(t, api.Module{Functions: []api.Function{{Body: c.block}, {Body: c.block, Return: deep}}, Main: c.block}, 3*c.nodes+5, max(4, c.depth))
	}
	// The target and the value do not count where the kind does not use them.
	for kind := api.StmtKind(-1); kind <= 11; kind++ {
		nodes, depth := 1, 1
		if kind == api.LetStmt || kind == api.IfStmt || kind == api.AssignStmt {
			nodes, depth = 5, 4
		}
		if kind == api.AssignStmt {
			nodes += 5
			depth = 5
		}
		checkSize(t, api.Module{Main: []api.Stmt{{Kind: kind, Target: unary(api.OpNot, deep), Value: deep}}}, nodes, depth)
	}
}

func TestP18_3Modules(t *testing.T) {
	checkSize(t, api.Module{}, 0, 0)
	checkSize(t, api.Module{Functions: []api.Function{{}}}, 1, 1)
	checkSize(t, api.Module{Functions: []api.Function{{}, {}, {}}}, 3, 1)
	// Declarations do not count.
	fields := []api.Field{{Name: "a", Type: fixedType()}, {Name: "b"}}
	checkSize(t, api.Module{Stage: 1, Structs: []api.Struct{{Name: "S", Fields: fields}}, Uniforms: fields, Textures: []string{"t"}, Buffers: []string{"b"}, Inputs: fields, Outputs: fields}, 0, 0)
	checkSize(t, api.Module{Functions: []api.Function{{Params: fields}}}, 1, 1)
	m, _ := whole()
	checkSize(t, m, 49, 4)
	next := random(6)
	for range 500 {
		d := deriver{next: next}
		m := d.module(3)
		checkSize(t, m, nodesOf(m), depthOf(m))
	}
}

// nested returns a text in other ones, some times.
func nested(before, middle, after string, count int) string {
	return strings.Repeat(before, count) + middle + strings.Repeat(after, count)
}

// TestP18_2Limits parses expressions of the greatest depth and number of nodes, and beyond.
func TestP18_2Limits(t *testing.T) {
	for _, c := range []struct {
		before, middle, after string
		depth                 int
	}{
		{"-", "a", "", 1}, {"!", "1.5", "", 1}, {"f(", "a", ")", 1}, {"f(a,", "1", ")", 1}, {"vec2(", "f()", ",b)", 1}, {"a[", "b", "]", 1}, {"a.x[", "b", "]", 1}, {"-f(", "a", ")", 2}, {"", "a", ".x", 1}, {"", "a", "[b]", 1}, {"", "a", " + b", 1}, {"", "a", "*b", 1}, {"a + (", "b", ")", 1}, {"(a < ", "b", ")", 1}, {"-(a|", "b", ")", 2}, {"(", "a", ").x", 1}, {"(", "a", ")[0]", 1},
	} {
		for count := range 40 {
			text := nested(c.before, c.middle, c.after, count)
			depth := 1 + count*c.depth
			if strings.HasPrefix(c.before, "a.x[") && count > 0 {
				depth++
			}
			if depth > 16 {
				checkExprError(t, text, 0, api.ErrTooLong)
				checkError(t, "shader vertex;\nmain { a = "+text+"; }", 0, api.ErrTooLong)
				checkError(t, "shader vertex;\nfn f() -> int { return "+text+"; } main { }", 0, api.ErrTooLong)
				// An error in a line comes first.
				checkExprError(t, text+"\n\n;", 3, api.ErrSyntax)
				checkError(t, "shader vertex;\nmain { a = "+text+";\n", 3, api.ErrSyntax)
				continue
			}
			if e, line, code := ParseExpr(text); code != api.OK || line != 0 || exprDepthOf(e) != depth {
				t.Errorf("ParseExpr(%q) has line %d, error %d and depth %d, want %d", text, line, code, exprDepthOf(e), depth)
			}
			if m, line, code := Parse("shader vertex; main { if (" + text + ") {} }"); code != api.OK || line != 0 || depthOf(m) != depth {
				t.Errorf("Parse with %q has line %d, error %d and depth %d, want %d", text, line, code, depthOf(m), depth)
			}
		}
	}
	// Parentheses are no nodes.
	checkExpr(t, nested("(", "a", ")", 1990), name("a"))
	checkExprError(t, nested("(", "a", ")", 1999)+"+1", 1, api.ErrFull)
	checkExprError(t, nested("(", "a", "", 3999), 1, api.ErrSyntax)
	checkExprError(t, nested("-", "a", "", 3999), 0, api.ErrTooLong)
	checkExprError(t, nested("f(", "", "", 2000), 1, api.ErrSyntax)
	for count, code := range map[int]api.Errno{998: api.OK, 999: api.OK, 1000: api.ErrTooLong, 1001: api.ErrTooLong, 1500: api.ErrTooLong} {
		text := "f(a" + strings.Repeat(",a", count-1) + ")"
		if e, line, got := ParseExpr(text); got != code || line != 0 || got == api.OK && !same(e, call("f", slices.Repeat([]api.Expr{name("a")}, count)...)) {
			t.Errorf("%d arguments give line %d and error %d", count, line, got)
		}
		if code == api.ErrTooLong {
			checkExprError(t, text, 0, code)
		}
	}
}

// TestP18_1Limits parses modules of the greatest depth and number of nodes, and beyond.
func TestP18_1Limits(t *testing.T) {
	for _, c := range []struct{ before, after string }{
		{"loop 1 {", "}"}, {"if (a) {", "}"}, {"if (a) {} else {", "}"}, {"if (a) { emit; } else { emit;", "emit; }"}, {"emit; loop 2 { cut;", "} break;"}, {"if (a) {", "} else { emit; }"},
	} {
		for count := range 40 {
			text := nested(c.before, "emit;", c.after, count)
			for _, module := range []string{"shader vertex; main {" + text + "}", "shader vertex; fn f() -> int {" + text + "return 1; } main {}"} {
				if count > 15 {
					checkError(t, module, 0, api.ErrTooLong)
				} else if m, line, code := Parse(module); line != 0 || code != api.OK || depthOf(m) != count+1 {
					t.Errorf("Parse(%q) has line %d, error %d and depth %d", module, line, code, depthOf(m))
				}
			}
			checkError(t, "shader vertex; main {"+text+"}\n\n}", 3, api.ErrSyntax)
		}
	}
	empty := nested("loop 1 {", "", "}", 16)
	if m, _, code := Parse("shader vertex; main {" + empty + "}"); code != api.OK || depthOf(m) != 16 {
		t.Errorf("16 empty loops give error %d", code)
	}
	checkError(t, "shader vertex; main {loop 1 {"+empty+"}}", 0, api.ErrTooLong)
	for _, c := range []struct {
		text  string
		nodes int
	}{{"emit;", 1}, {"a=1;", 3}, {"let a: int = 1;", 2}, {"if (a) {}", 2}, {"loop 1 { cut; }", 2}, {"a[1] = f(b);", 6}} {
		for _, nodes := range []int{999, 1000, 1001, 1002} {
			block := strings.Repeat(c.text, nodes/c.nodes) + strings.Repeat("emit;", nodes%c.nodes)
			// The value that a function returns is a node, too.
			function := strings.Replace(block, c.text, "", 1) + strings.Repeat("emit;", c.nodes-1)
			for _, module := range []string{"shader vertex; main {" + block + "}", "shader vertex; fn f() -> int {" + function + " return 1; } main {}"} {
				if nodes > 1000 {
					checkError(t, module, 0, api.ErrTooLong)
					checkError(t, module+"\n;", 2, api.ErrSyntax)
				} else if m, line, code := Parse(module); line != 0 || code != api.OK || nodesOf(m) != nodes {
					t.Errorf("Parse(%q) has line %d, error %d and %d nodes, want %d", shown(module), line, code, nodesOf(m), nodes)
				}
			}
		}
	}
	// Declarations are no nodes.
	if m, line, code := Parse("shader vertex;" + strings.Repeat("uniform a: int; ", 790) + "main {}"); code != api.OK || len(m.Uniforms) != 790 {
		t.Errorf("790 uniforms give line %d and error %d", line, code)
	}
}

// TestP18_1Depths parses modules that are small, but with more parts nested than the greatest depth, and texts of unclosed parts.
func TestP18_1Depths(t *testing.T) {
	for _, before := range []string{"(", "-", "!", "f(", "a[", "vec2(", "-(", "a+(", "(a<", "f(a,"} {
		text := strings.Repeat(before, 3900/(len(lex(t, before))-1))
		checkExprError(t, text, 1, api.ErrSyntax)
		checkError(t, "shader vertex; main { a =\n"+text+"\n", 3, api.ErrSyntax)
	}
	checkError(t, "shader vertex; main {\n"+strings.Repeat("loop 1 {", 1300), 2, api.ErrSyntax)
	checkError(t, "shader vertex; main {\n"+strings.Repeat("if(a){}else{", 400), 2, api.ErrSyntax)
	checkError(t, "shader vertex; main {\n"+nested("loop 1 {", "", "}", 990)+"}", 0, api.ErrTooLong)
}
