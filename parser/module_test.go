package parser

import (
	"slices"
	"strings"
	"testing"

	"frustum/api"
	"frustum/lexer"
)

func TestP18_1Whole(t *testing.T) {
	want, text := whole()
	checkParse(t, text, want)
}

func TestP18_1Stages(t *testing.T) {
	checkParse(t, "shader vertex; main {}", api.Module{Stage: api.VertexStage})
	checkParse(t, "shader geometry; main {}", api.Module{Stage: api.GeometryStage})
	checkParse(t, "shader fragment; main {}", api.Module{Stage: api.FragmentStage})
	checkParse(t, "\n//\nshader\nvertex\n;main{\n}\n\n", api.Module{Stage: api.VertexStage})
	for _, word := range slices.Concat(words(), typeWords(), []string{"pixel", "vertexes", "Vertex", "0", "1", "1.5", "(", ";", "{", "-", "shader"}) {
		if word != "vertex" && word != "geometry" && word != "fragment" {
			checkError(t, "shader\n"+word+"\n; main {}", 2, api.ErrSyntax)
		}
		if word != "shader" {
			checkError(t, word+"\nvertex; main {}", 1, api.ErrSyntax)
		}
		if word != ";" {
			checkError(t, "shader vertex\n"+word+"\nmain {}", 2, api.ErrSyntax)
		}
	}
	for text, line := range map[string]int{
		"": 1, " ": 1, "\n": 2, "\n\n//": 3, "// a\n": 2, "shader": 1, "shader\n": 2, "shader vertex": 1, "shader vertex\n\n": 3, "shader vertex;": 1, "shader vertex;\n//\n": 3, "shader ;": 1, "shader\n; vertex": 2,
		"vertex;": 1, ";": 1, "main {}": 1, "shader vertex\nmain {}": 2, "shader vertex;;\n": 1, "shader vertex; main": 1, "shader vertex; main\n": 2, "shader vertex; main {": 1, "shader vertex; main {\n\n": 3, "shader vertex; main }": 1, "shader vertex; {}": 1, "shader vertex; main () {}": 1,
		"shader vertex geometry; main {}": 1, "shader vertex; shader vertex; main {}": 1, "shader vertex; main ;": 1, "shader vertex; main {{}}": 1, "shader vertex; emit; main {}": 1,
	} {
		checkError(t, text, line, api.ErrSyntax)
	}
}

// TestP18_1Behind parses texts with something behind the end of main.
func TestP18_1Behind(t *testing.T) {
	for _, token := range allTokens() {
		checkError(t, "shader vertex; main {}\n"+token, 2, api.ErrSyntax)
		checkError(t, "shader vertex; main { emit; }\n//\n "+token+" \n", 3, api.ErrSyntax)
	}
	for _, text := range []string{"main {}", "uniform a: int;", "emit;", "shader vertex; main {}"} {
		checkError(t, "shader vertex; main {}\n\n"+text, 3, api.ErrSyntax)
	}
}

// part is a declaration: its text, and what adds it to a module.
type part struct {
	text string
	add  func(m *api.Module)
}

// parts returns several declarations of each kind.
func parts() []part {
	field := func(name string, kind api.TypeKind) api.Field {
		return api.Field{Name: name, Type: api.Type{Kind: kind}}
	}
	return []part{
		{"struct A { }", func(m *api.Module) { m.Structs = append(m.Structs, api.Struct{Name: "A"}) }},
		{"struct B { x: int; }", func(m *api.Module) {
			m.Structs = append(m.Structs, api.Struct{Name: "B", Fields: []api.Field{field("x", api.IntType)}})
		}},
		{"struct C { x: vec3; x: A; y: bool; }", func(m *api.Module) {
			m.Structs = append(m.Structs, api.Struct{Name: "C", Fields: []api.Field{field("x", api.Vec3Type), {Name: "x", Type: api.Type{Kind: api.StructType, Name: "A"}}, field("y", api.BoolType)}})
		}},
		{"uniform u: fixed;", func(m *api.Module) { m.Uniforms = append(m.Uniforms, field("u", api.FixedType)) }},
		{"uniform _: half;", func(m *api.Module) { m.Uniforms = append(m.Uniforms, field("_", api.HalfType)) }},
		{"in i: vec2;", func(m *api.Module) { m.Inputs = append(m.Inputs, field("i", api.Vec2Type)) }},
		{"in u: vec4;", func(m *api.Module) { m.Inputs = append(m.Inputs, field("u", api.Vec4Type)) }},
		{"out o: int;", func(m *api.Module) { m.Outputs = append(m.Outputs, field("o", api.IntType)) }},
		{"out o: D;", func(m *api.Module) {
			m.Outputs = append(m.Outputs, api.Field{Name: "o", Type: api.Type{Kind: api.StructType, Name: "D"}})
		}},
		{"texture t;", func(m *api.Module) { m.Textures = append(m.Textures, "t") }},
		{"texture u;", func(m *api.Module) { m.Textures = append(m.Textures, "u") }},
		{"buffer b;", func(m *api.Module) { m.Buffers = append(m.Buffers, "b") }},
		{"buffer t;", func(m *api.Module) { m.Buffers = append(m.Buffers, "t") }},
		{"fn f() -> int { return 1; }", func(m *api.Module) {
			m.Functions = append(m.Functions, api.Function{Name: "f", Result: api.Type{Kind: api.IntType}, Return: integer(1)})
		}},
		{"fn g(x: fixed) -> A { emit; return x; }", func(m *api.Module) {
			m.Functions = append(m.Functions, api.Function{Name: "g", Params: []api.Field{field("x", api.FixedType)}, Result: api.Type{Kind: api.StructType, Name: "A"}, Body: []api.Stmt{{Kind: api.EmitStmt}}, Return: name("x")})
		}},
		{"fn f(x: A, y: bool, x: vec4) -> vec4 { cut; if (x) { } return g(x) + 1.0; }", func(m *api.Module) {
			m.Functions = append(m.Functions, api.Function{Name: "f", Params: []api.Field{{Name: "x", Type: api.Type{Kind: api.StructType, Name: "A"}}, field("y", api.BoolType), field("x", api.Vec4Type)}, Result: api.Type{Kind: api.Vec4Type},
				Body: []api.Stmt{{Kind: api.CutStmt}, {Kind: api.IfStmt, Value: name("x")}}, Return: binary(api.OpAdd, call("g", name("x")), number(65536))})
		}},
	}
}

// TestP18_1Declarations parses each declaration alone, all pairs of them, and all of them in arbitrary orders.
func TestP18_1Declarations(t *testing.T) {
	check := func(order ...part) {
		want := api.Module{Stage: api.FragmentStage, Main: []api.Stmt{{Kind: api.DiscardStmt}}}
		text := "shader fragment;"
		for _, p := range order {
			p.add(&want)
			text += "\n" + p.text
		}
		checkParse(t, text+"main { discard; }", want)
	}
	all := parts()
	check()
	for _, a := range all {
		check(a)
		for _, b := range all {
			check(a, b)
		}
	}
	next := random(1)
	for range 100 {
		var order []part
		for range next(30) {
			order = append(order, all[next(len(all))])
		}
		check(order...)
	}
}

// TestP18_1Names puts keywords and type words in the place of names, and names in the place of keywords.
func TestP18_1Names(t *testing.T) {
	places := []string{
		"struct\n@ { a: int; } main {}", "struct S {\n@ : int; } main {}", "struct S { a: int;\n@ : int; } main {}", "uniform\n@ : int; main {}", "in\n@ : int; main {}", "out\n@ : int; main {}", "texture\n@ ; main {}", "buffer\n@ ; main {}",
		"fn\n@ () -> int { return 1; } main {}", "fn f(\n@ : int) -> int { return 1; } main {}", "fn f(a: int,\n@ : int) -> int { return 1; } main {}", "main { let\n@ : int = 1; }", "main { a = b.\n@ ; }", "main { a.\n@ = 1; }",
	}
	for _, place := range places {
		for _, name := range []string{"a", "_", "z9", "S", "f", "min", "vec5", "Main", "shaders", "position", "a23456789012345678901234567890"} {
			text := "shader vertex;" + strings.ReplaceAll(place, "@", name)
			if m, line, code := Parse(text); code != api.OK || !strings.Contains(strings.ReplaceAll(shownModule(m), "Name:S ", ""), name) {
				t.Errorf("Parse(%q) is %+v, %d, %d", text, m, line, code)
			}
		}
		for _, other := range slices.Concat(words(), typeWords(), []string{"0", "1.5", "(", "-", "=", "->"}) {
			text := "shader vertex;" + strings.ReplaceAll(place, "@", other)
			checkError(t, text, 2, api.ErrSyntax)
		}
	}
	for _, text := range []string{"struct\n{ }", "struct S\na: int;", "struct S {\n}; main {}", "struct S { a\nint; }", "struct S { a:\n; }", "struct S { a: int\n}", "struct S { a: int\n, b: int; }", "struct S { a, b\n: int; }", "struct S { a: int;\n; }", "struct S { a: S { }\n}", "uniform a\n;", "uniform a:\n;", "uniform a: int\nuniform b: int;", "uniform a: int,\nb: int;", "uniform a: 1\n;", "in a: int\n= 1;", "out a\nint;", "texture t\n: int;", "texture t\n, u;", "buffer b\n{}", "fn f\n{}", "fn f(\n;", "fn f(a: int\nb: int) -> int", "fn f(a: int,\n) -> int", "fn f(,\na: int)", "fn f(a\n, b: int)", "fn f()\n{ return 1; }", "fn f() ->\n{ return 1; }", "fn f() -> int\nreturn 1;", "fn f() -> int {\n} main {}", "fn f() -> int { return\n; } main {}", "fn f() -> int { return 1\n} main {}", "fn f() -> int { return 1;\nemit; } main {}", "fn f() -> int { return 1;\nreturn 1; } main {}", "fn f() -> int { emit\nreturn 1; } main {}", "fn f() -> int { if (a) { \nreturn 1; } return 1; } main {}", "fn f() -> int { return 1;\n; } main {}", "fn f() -> int { return (1\n; } main {}", "main {\nreturn 1; }", "main {\nfn f() -> int { return 1; } }", "main { emit; } emit\n;", "main { \nuniform a: int; }", "main\n;"} {
		line := 2
		// The errors of these are in front of the line feed.
		if slices.Contains([]string{"uniform a: 1\n;", "uniform a: int,\nb: int;", "struct S { a, b\n: int; }", "fn f(,\na: int)", "struct S { a: S { }\n}", "main { emit; } emit\n;"}, text) {
			line = 1
		}
		checkError(t, "shader vertex;"+text, line, api.ErrSyntax)
	}
}

// shownModule returns a text with all names of a module.
func shownModule(m api.Module) string {
	var texts []string
	add := func(fields []api.Field) {
		for _, f := range fields {
			texts = append(texts, f.Name)
		}
	}
	for _, s := range m.Structs {
		texts = append(texts, s.Name)
		add(s.Fields)
	}
	add(slices.Concat(m.Uniforms, m.Inputs, m.Outputs))
	texts = append(texts, slices.Concat(m.Textures, m.Buffers)...)
	for _, f := range m.Functions {
		texts = append(texts, f.Name)
		add(f.Params)
	}
	for _, s := range m.Main {
		texts = append(texts, s.Name, s.Target.Name, s.Value.Name)
	}
	return strings.Join(texts, " ")
}

// TestP18_1Types parses each type at each place.
func TestP18_1Types(t *testing.T) {
	types := map[string]api.Type{
		"fixed": {Kind: api.FixedType}, "half": {Kind: api.HalfType}, "int": {Kind: api.IntType}, "bool": {Kind: api.BoolType}, "vec2": {Kind: api.Vec2Type}, "vec3": {Kind: api.Vec3Type}, "vec4": {Kind: api.Vec4Type},
		"S": {Kind: api.StructType, Name: "S"}, "vec5": {Kind: api.StructType, Name: "vec5"}, "_": {Kind: api.StructType, Name: "_"}, "Fixed": {Kind: api.StructType, Name: "Fixed"}, "a_name_that_is_longer_than_sixteen_bytes": {Kind: api.StructType, Name: "a_name_that_is_longer_than_sixteen_bytes"},
	}
	for word, kind := range types {
		field := []api.Field{{Name: "a", Type: kind}}
		checkParse(t, "shader vertex; struct T { a: "+word+"; } main {}", api.Module{Stage: api.VertexStage, Structs: []api.Struct{{Name: "T", Fields: field}}})
		checkParse(t, "shader vertex; uniform a: "+word+"; main {}", api.Module{Stage: api.VertexStage, Uniforms: field})
		checkParse(t, "shader vertex; in a: "+word+"; main {}", api.Module{Stage: api.VertexStage, Inputs: field})
		checkParse(t, "shader vertex; out a: "+word+"; main {}", api.Module{Stage: api.VertexStage, Outputs: field})
		checkParse(t, "shader vertex; fn f(a: "+word+") -> "+word+" { return a; } main {}", api.Module{Stage: api.VertexStage, Functions: []api.Function{{Name: "f", Params: field, Result: kind, Return: name("a")}}})
		checkStmt(t, "let a: "+word+" = 1;", api.Stmt{Kind: api.LetStmt, Name: "a", Type: kind, Value: integer(1)})
	}
	for _, other := range append(words(), "1", "1.5", "(", "-", ";", "=") {
		checkError(t, "shader vertex; uniform a:\n"+other+"; main {}", 2, api.ErrSyntax)
		checkError(t, "shader vertex; fn f() ->\n"+other+" { return 1; } main {}", 2, api.ErrSyntax)
		checkError(t, "shader vertex; main { let a:\n"+other+" = 1; }", 2, api.ErrSyntax)
	}
}

func TestP18_1Statements(t *testing.T) {
	a, b, one := name("a"), name("b"), integer(1)
	emit, cut := api.Stmt{Kind: api.EmitStmt}, api.Stmt{Kind: api.CutStmt}
	for _, c := range []struct {
		text string
		want api.Stmt
	}{
		{"break;", api.Stmt{Kind: api.BreakStmt}}, {"continue;", api.Stmt{Kind: api.ContinueStmt}}, {"discard;", api.Stmt{Kind: api.DiscardStmt}}, {"emit;", emit}, {"cut\n;", cut},
		{"let a: int = 1;", api.Stmt{Kind: api.LetStmt, Name: "a", Type: api.Type{Kind: api.IntType}, Value: one}},
		{"let x: S = S(a, b) | 1;", api.Stmt{Kind: api.LetStmt, Name: "x", Type: api.Type{Kind: api.StructType, Name: "S"}, Value: binary(api.OpOr, call("S", a, b), one)}},
		{"a = 1;", api.Stmt{Kind: api.AssignStmt, Target: a, Value: one}},
		{"a.x = b;", api.Stmt{Kind: api.AssignStmt, Target: member(a, "x"), Value: b}},
		{"a[1] = b == 1;", api.Stmt{Kind: api.AssignStmt, Target: index(a, one), Value: binary(api.OpEqual, b, one)}},
		{"a.x[b].y.z[1] = -b;", api.Stmt{Kind: api.AssignStmt, Target: index(member(member(index(member(a, "x"), b), "y"), "z"), one), Value: unary(api.OpNegate, b)}},
		// A target is any postfix expression.
		{"f(a) = 1;", api.Stmt{Kind: api.AssignStmt, Target: call("f", a), Value: one}},
		{"vec2(a)[1].x = 1;", api.Stmt{Kind: api.AssignStmt, Target: member(index(call("vec2", a), one), "x"), Value: one}},
		{"1 = 1;", api.Stmt{Kind: api.AssignStmt, Target: one, Value: one}}, {"0.5 = 1;", api.Stmt{Kind: api.AssignStmt, Target: number(32768), Value: one}}, {"true = 1;", api.Stmt{Kind: api.AssignStmt, Target: boolean(1), Value: one}}, {"false = 1;", api.Stmt{Kind: api.AssignStmt, Target: boolean(0), Value: one}},
		{"(a + b) = 1;", api.Stmt{Kind: api.AssignStmt, Target: binary(api.OpAdd, a, b), Value: one}}, {"((-a)).x = 1;", api.Stmt{Kind: api.AssignStmt, Target: member(unary(api.OpNegate, a), "x"), Value: one}},
		{"if (a) {}", api.Stmt{Kind: api.IfStmt, Value: a}}, {"if (a) {} else {}", api.Stmt{Kind: api.IfStmt, Value: a}},
		{"if (a < b) { emit; }", api.Stmt{Kind: api.IfStmt, Value: binary(api.OpLess, a, b), Body: []api.Stmt{emit}}},
		{"if ((a)) { emit; cut; } else {}", api.Stmt{Kind: api.IfStmt, Value: a, Body: []api.Stmt{emit, cut}}},
		{"if (a) { emit; } else { cut; emit; }", api.Stmt{Kind: api.IfStmt, Value: a, Body: []api.Stmt{emit}, Else: []api.Stmt{cut, emit}}},
		{"if (a) {} else { if (b) { emit; } else { cut; } }", api.Stmt{Kind: api.IfStmt, Value: a, Else: []api.Stmt{{Kind: api.IfStmt, Value: b, Body: []api.Stmt{emit}, Else: []api.Stmt{cut}}}}},
		{"if (a) { if (b) {} } else { emit; }", api.Stmt{Kind: api.IfStmt, Value: a, Body: []api.Stmt{{Kind: api.IfStmt, Value: b}}, Else: []api.Stmt{emit}}},
		{"loop 0 {}", api.Stmt{Kind: api.LoopStmt}}, {"loop 1 { emit; }", api.Stmt{Kind: api.LoopStmt, Count: 1, Body: []api.Stmt{emit}}}, {"loop 2147483647 {}", api.Stmt{Kind: api.LoopStmt, Count: 2147483647}},
		{"loop 16 { loop 17 { cut; } emit; }", api.Stmt{Kind: api.LoopStmt, Count: 16, Body: []api.Stmt{{Kind: api.LoopStmt, Count: 17, Body: []api.Stmt{cut}}, emit}}},
	} {
		checkStmt(t, c.text, c.want)
	}
	checkParse(t, "shader vertex; main { emit; emit; cut; break; }", api.Module{Stage: api.VertexStage, Main: []api.Stmt{emit, emit, cut, {Kind: api.BreakStmt}}})
}

func TestP18_1StatementErrors(t *testing.T) {
	for _, text := range []string{
		"\n;", "\n{}", "{}\n", "\nreturn 1;", "\nmain {}", "\nshader vertex;", "\nelse {}", "\nfn f() -> int { return 1; }", "\nstruct S {}", "\nin a: int;", "\n=", "\n= 1;", "\n-a = 1;", "\n!a = 1;", "\n+ 1;", "\n)", "\n]", "\n, a = 1;", "\nuniform a: int;",
		"break\n}", "break 1\n;", "break\nbreak;", "break;\n;", "continue\n= 1;", "discard\n(a);", "emit\na = 1;", "cut\n.x;", "emit\n,", "\nemit emit;",
		"a\n;", "a\nb = 1;", "a\n+ 1 = 1;", "a =\n;", "a =\n= 1;", "a\n== 1;", "a\n+= 1;", "a = 1\n", "a = 1\nb = 1;", "a = 1 = 1\n;", "a = 1 2\n;", "a, b\n= 1;", "f(a)\n;", "a.\n= 1;", "a[\n] = 1;", "a[1\n= 1;", "a = 1;\n;", "(a\n= 1;", "a\n: int = 1;", "a =\n{}", "vec2\n= 1;", "fixed\n;", "a = vec2\n;", "let\n",
		"let\n: int = 1;", "let a\n= 1;", "let a:\n= 1;", "let a: int\n;", "let a: int =\n;", "let a: int = 1\n", "let a.x\n: int = 1;", "let a: int, b\n: int = 1;", "let a: int = 1, b\n= 1;", "let 1\n: int = 1;", "let a[1]\n: int = 1;", "let a: vec2(\n1) = 1;",
		"if\n{}", "if (\n) {}", "if (a\n{}", "if (a)\nemit;", "if (a)\n;", "if a\n{}", "if (a) {} else\nif (b) {}", "if (a) {} else\nemit;", "if (a) {} else {}\nelse {}", "if (a, b\n) {}", "if (a = b\n) {}", "if (a) {};\n", "if (a) {} else {};\n", "if (let\n) {}",
		"loop\n{}", "loop (1\n) {}", "loop a\n{}", "loop 1.5\n{}", "loop -1\n{}", "loop 1\nemit;", "loop 1;\n", "loop 1 2\n{}", "loop 1 {}\nelse {}", "loop true\n{}", "loop 1 + 1\n{}", "loop 1 {};\n",
	} {
		line := 2
		// The errors of these are in front of the line feed.
		for _, early := range []string{"{}\n", "break 1\n;", "a = 1 = 1\n;", "a = 1 2\n;", "a, b\n= 1;", "let a.x\n: int = 1;", "let a: int, b\n: int = 1;", "let a: int = 1, b\n= 1;", "let 1\n: int = 1;", "let a[1]\n: int = 1;", "let a: vec2(\n1) = 1;", "if a\n{}", "if (a, b\n) {}", "if (a = b\n) {}", "if (a) {};\n", "if (a) {} else {};\n", "if (let\n) {}", "loop (1\n) {}", "loop a\n{}", "loop 1.5\n{}", "loop -1\n{}", "loop 1;\n", "loop 1 2\n{}", "loop true\n{}", "loop 1 + 1\n{}", "loop 1 {};\n"} {
			if text == early {
				line = 1
			}
		}
		checkStmtError(t, text, line)
	}
}

// TestP18_1Spoiled cuts a text off behind each of its tokens, adds a token at each place, leaves one out, replaces each one by each other kind of token, and compares the lines of errors with those of Earley's algorithm.
func TestP18_1Spoiled(t *testing.T) {
	_, text := whole()
	tokens := lex(t, text)
	kinds := lex(t, strings.Join(allTokens(), " "))
	before := newRecognizer("MODULE")
	for at, token := range tokens {
		last := api.Token{Kind: api.EndToken, Line: token.Line}
		lists := [][]api.Token{{last}}
		if token.Kind != api.EndToken {
			lists = append(lists, tokens[at+1:], append([]api.Token{token}, tokens[at:]...))
		}
		for _, kind := range kinds[:len(kinds)-1] {
			kind.Line = token.Line
			lists = append(lists, append([]api.Token{kind}, tokens[at:]...), append([]api.Token{kind}, tokens[at+1:]...), []api.Token{kind, last})
		}
		for i, list := range lists {
			// Without its end, the text is not changed.
			if len(list) > 0 && list[len(list)-1].Kind == api.EndToken {
				checkWrong(t, tokens[:at], list, before, i)
			}
		}
		before = before.with(symbolOf(token))
	}
}

// checkWrong checks the line of the error of a text with these tokens, of which the recognizer is behind the first list.
func checkWrong(t *testing.T, first, second []api.Token, before *recognizer, number int) {
	t.Helper()
	var text strings.Builder
	line := 1
	for _, token := range append(first[:len(first):len(first)], second...) {
		for line < token.Line {
			text.WriteString("\n")
			line++
		}
		text.WriteString(" " + token.Text)
	}
	want := wrongLine(before, second)
	_, got, code := Parse(text.String())
	if want == 0 && (code != api.OK || got != 0) || want > 0 && (code != api.ErrSyntax || got != want) {
		t.Errorf("change %d: Parse(%q) has line %d and error %d, want line %d", number, shown(text.String()), got, code, want)
	}
}

// TestP18_1SpoiledArbitrary does the same with arbitrary changes of arbitrary modules, with each token in a line of its own.
func TestP18_1SpoiledArbitrary(t *testing.T) {
	kinds := allTokens()
	next := random(2)
	for range 1500 {
		d := deriver{next: next}
		d.module(2)
		texts := d.tokens
		if len(texts) > 250 {
			continue
		}
		for range 1 + next(2) {
			at := next(len(texts) + 1)
			switch next(4) {
			case 0:
				texts = slices.Insert(texts, at, kinds[next(len(kinds))])
			case 1:
				texts = slices.Delete(texts, min(at, len(texts)-1), min(at+1, len(texts)))
			case 2:
				texts[min(at, len(texts)-1)] = kinds[next(len(kinds))]
			case 3:
				texts = texts[:max(1, at)]
			}
		}
		text := strings.Join(texts, "\n")
		tokens := lex(t, text)
		want := wrongLine(newRecognizer("MODULE"), tokens)
		m, line, code := Parse(text)
		if want == 0 && code != api.OK && code != api.ErrTooLong || want > 0 && (code != api.ErrSyntax || line != want || !same(m, api.Module{})) {
			t.Errorf("Parse(%q) has line %d and error %d, want line %d", shown(text), line, code, want)
		}
	}
}

// TestP18_1Arbitrary parses arbitrary modules, which are derived from the grammar.
func TestP18_1Arbitrary(t *testing.T) {
	next := random(3)
	count := 0
	for range 3000 {
		d := deriver{next: next}
		want := d.module(3)
		text := dense(d.tokens)
		if len(text) > 16384 || len(d.tokens) > 4000 {
			continue
		}
		if nodesOf(want) > 1000 || depthOf(want) > 16 {
			checkError(t, text, 0, api.ErrTooLong)
			continue
		}
		checkParse(t, text, want)
		count++
	}
	if count < 2000 {
		t.Errorf("only %d modules are small enough", count)
	}
}

// TestP18_1Lexer parses texts with errors of lexer.Lex, which come before those of the parser.
func TestP18_1Lexer(t *testing.T) {
	for _, c := range []struct {
		text string
		line int
		code api.Errno
	}{
		{"#", 1, api.ErrSyntax}, {"shader vertex; main {}\n#", 2, api.ErrSyntax}, {"shader vertex; main { a = 01; }", 1, api.ErrSyntax}, {"shader vertex;\nmain { a =\n2147483648; }", 3, api.ErrRange}, {"shader vertex;\nmain { a = 8192.0; }", 2, api.ErrRange}, {"shader vertex;\n\nmain { a = 1.123456; }", 3, api.ErrSyntax},
		// The error of the parser is in a line before.
		{"main\n;\n2147483648", 3, api.ErrRange}, {"shader shader\n\n\n1a", 4, api.ErrSyntax}, {"1\n8192.0\n#", 2, api.ErrRange}, {"(((\n" + strings.Repeat("a ", 4000), 2, api.ErrFull},
		{strings.Repeat(";\n", 4001), 4001, api.ErrFull}, {strings.Repeat(" ", 16385), 0, api.ErrTooLong}, {strings.Repeat("#", 16385), 0, api.ErrTooLong}, {"shader vertex; main {}" + strings.Repeat(" ", 16384), 0, api.ErrTooLong},
	} {
		checkError(t, c.text, c.line, c.code)
		checkExprError(t, c.text, c.line, c.code)
		if _, line, code := lexer.Lex(c.text); line != c.line || code != c.code {
			t.Errorf("Lex(%q) has line %d and error %d", shown(c.text), line, code)
		}
	}
	long := "shader vertex; main {}"
	checkParse(t, long+strings.Repeat(" ", 16384-len(long)), api.Module{Stage: api.VertexStage})
	checkParse(t, strings.Repeat("\n", 16384-len(long))+long, api.Module{Stage: api.VertexStage})
	checkError(t, strings.Repeat("\n", 16000)+"main", 16001, api.ErrSyntax)
}

// TestP18_5 puts arbitrary separators between the tokens of modules and expressions.
func TestP18_5(t *testing.T) {
	next := random(4)
	for range 1000 {
		d := deriver{next: next}
		want := d.module(2)
		if text := apart(d.tokens, next); len(text) <= 16384 && nodesOf(want) <= 1000 && depthOf(want) <= 16 {
			checkParse(t, text, want)
			checkParse(t, strings.Join(d.tokens, " "), want)
			checkParse(t, strings.Join(d.tokens, "\n"), want)
			checkParse(t, strings.Join(d.tokens, "\t// \n"), want)
		}
		d = deriver{next: next}
		e := d.expression(3)
		if exprDepthOf(e) <= 16 {
			checkExpr(t, apart(d.tokens, next), e)
			checkExpr(t, dense(d.tokens), e)
			checkExpr(t, "//\n"+strings.Join(d.tokens, " //)\n\n\t")+" // +", e)
		}
	}
	want, text := whole()
	var texts []string
	tokens := lex(t, text)
	for _, token := range tokens[:len(tokens)-1] {
		texts = append(texts, token.Text)
	}
	checkParse(t, dense(texts), want)
	checkParse(t, strings.Join(texts, "\n//\n"), want)
	checkParse(t, strings.Join(texts, "  "), want)
}
