package compiler_test

import (
	"fmt"
	"math"
	"slices"
	"strings"
	"testing"

	"frustum/api"
	"frustum/compiler"
	"frustum/interpreter"
	"frustum/isa"
	"frustum/lower"
	"frustum/optimize"
	"frustum/parser"
	"frustum/regalloc"
	"frustum/types"
)

// parse returns the module with a text.
func parse(t *testing.T, text string) api.Module {
	t.Helper()
	m, line, code := parser.Parse(text)
	if code != api.OK {
		t.Fatalf("the test is wrong: the text %q has error %d in line %d", text, code, line)
	}
	return m
}

// checkCompile checks the line and the error of a text.
func checkCompile(t *testing.T, text string, registers, line int, want api.Errno) {
	t.Helper()
	p, at, code := compiler.Compile(text, registers)
	if code != want || at != line || code != api.OK && !isa.Equal(p, api.Program{}) || code == api.OK && isa.Validate(p) != api.OK {
		t.Errorf("%.100q with %d registers has line %d and error %d, want %d and %d; the program is %.100q", text, registers, at, code, line, want, isa.Format(p))
	}
}

func TestP27_1Example(t *testing.T) {
	p, line, code := compiler.Compile("shader vertex; out o: fixed; main { o = 1.0 + 2.0; }", 1)
	// The output is 0 at first, and both constants are in the same register.
	want := api.Program{Stage: api.VertexStage, Registers: 1, Outputs: 1, Code: []api.Instr{{Op: api.Const}, {Op: api.Const, Imm: 196608}, {Op: api.Output}}}
	if line != 0 || code != api.OK || !isa.Equal(p, want) {
		t.Errorf("the program is %v, line %d, error %d, want %v", p, line, code, want)
	}
	if result, code := lower.LaneOf(p, api.Bindings{}, nil); code != api.OK || !slices.Equal(result.Outputs, []int{196608}) {
		t.Errorf("the result is %v, error %d", result, code)
	}
}

func TestP27_1Errors(t *testing.T) {
	long := strings.Repeat(" ", api.MaxText)
	deep := strings.Repeat("if (true) {", 17) + strings.Repeat("}", 17)
	for _, c := range []struct {
		text string
		line int
		want api.Errno
	}{
		{"shader vertex; main { }", 0, api.OK}, {"", 1, api.ErrSyntax}, {"\n\n", 3, api.ErrSyntax}, {"shader vertex;\nmain { }\n}", 3, api.ErrSyntax}, {"shader vertex;\n\nmain { x }", 3, api.ErrSyntax}, {"shader vertex;\nmain { 01 }", 2, api.ErrSyntax}, {"shader vertex;\n#", 2, api.ErrSyntax}, {"shader vertex; out o: int;\n main { o = 2147483648; }", 2, api.ErrRange}, {"\nshader vertex; out o: fixed; main { o = 8192.0; }", 2, api.ErrRange},
		{long + "x", 0, api.ErrTooLong}, {"\n\n" + strings.Repeat("a ", 4001), 3, api.ErrFull}, {"shader vertex; out o: int; main {" + strings.Repeat("\no=o;", 334) + "}", 0, api.ErrTooLong}, {"shader vertex;\n main {" + deep + "}", 0, api.ErrTooLong},
		// Errors of types.Check.
		{"shader vertex;\nin a: S; main { }", 0, api.ErrType}, {"shader vertex;\nin a: int; in a: int; main { }", 0, api.ErrName}, {"shader vertex; main { x = 1; }", 0, api.ErrName}, {"shader vertex; out o: int; main { o = 1.0; }", 0, api.ErrType}, {"shader vertex; main { break; }", 0, api.ErrKind}, {"shader vertex; main { loop 0 { } }", 0, api.ErrRange}, {"shader vertex; struct S { } main { }", 0, api.ErrCount}, {"shader vertex; out o: vec4; main {" + strings.Repeat("o = o * 2.0;", 40) + "}", 0, api.ErrTooLong}, {"shader vertex; texture a; texture b; texture c; texture d; texture e; main { }", 0, api.ErrTooLong},
	} {
		for _, registers := range []int{8192, 256, math.MaxInt} {
			checkCompile(t, c.text, registers, c.line, c.want)
		}
		if c.want != api.OK {
			// These come before the error of too few registers.
			checkCompile(t, c.text, -1, c.line, c.want)
			checkCompile(t, c.text, math.MinInt, c.line, c.want)
		}
	}
	// An error of the parser comes before one of types.Check in an earlier line.
	checkCompile(t, "shader vertex;\nin a: S;\nmain { x }", 9, 3, api.ErrSyntax)
	checkCompile(t, "shader vertex;\nin a: S;\nmain { x = 2147483648; }", 9, 3, api.ErrRange)
}

// TestP27_1Registers has limits below, at and above the number of registers that a program needs.
func TestP27_1Registers(t *testing.T) {
	for _, text := range []string{
		"shader vertex; main { }", "shader vertex; out o: int; main { o = 5; }", "shader vertex; in a: vec4; out o: vec4; main { o = a * a.x + a / a.y; }", "shader fragment; in a: vec4; out o: vec4; main { let b: vec4 = ddx(a); loop 4 { b = b + a * b.x; if (b.y > 1.0) { break; } } o = b; }",
	} {
		m := parse(t, text)
		lowered, _ := lower.Lower(m)
		need := regalloc.Pressure(optimize.Optimize(lowered))
		for registers, want := range map[int]api.Errno{need - 1: api.ErrFull, need: api.OK, need + 1: api.OK, math.MaxInt: api.OK, -1: api.ErrFull, math.MinInt: api.ErrFull, 8192: api.OK, 8193: api.OK} {
			checkCompile(t, text, registers, 0, want)
			p, code := compiler.Build(m, registers)
			if code != want || code != api.OK && !isa.Equal(p, api.Program{}) || code == api.OK && p.Registers != need {
				t.Errorf("%s with %d registers becomes a program with %d, error %d, want %d", text, registers, p.Registers, code, want)
			}
		}
	}
}

func TestP27_1Build(t *testing.T) {
	for _, m := range []api.Module{{}, {Stage: 4}, {Stage: 1, Main: []api.Stmt{{}}}, parse(t, "shader vertex; main { x = 1; }"), parse(t, "shader vertex; main { emit; }")} {
		for _, registers := range []int{math.MinInt, -1, 0, 8192, math.MaxInt} {
			if p, code := compiler.Build(m, registers); code != api.ErrShader || !isa.Equal(p, api.Program{}) {
				t.Errorf("a module with an error becomes %v, error %d", p, code)
			}
		}
	}
	p, code := compiler.Build(parse(t, "shader geometry; uniform u: int; texture t; buffer b; in i: int; in j: bool; out o: int; main { let a: int = i; let c: int = a; o = c * 3 + u; emit; }"), 9)
	want := "input r0 0\nconst r1 3\nmul-int r2 r0 r1\nuniform r0 0\nadd-int r1 r2 r0\noutput r1 0\nemit\n"
	if code != api.OK || isa.Format(p) != want || p.Stage != 2 || p.Registers != 3 || p.Inputs != 2 || p.Outputs != 1 || p.Uniforms != 1 || p.Textures != 1 || p.Buffers != 1 {
		t.Errorf("the program is %+v, error %d, want\n%s", p, code, want)
	}
}

// TestP27_5Arbitrary compares Compile and Build with the steps of P27.1, and programs with the interpreter, for arbitrary texts.
func TestP27_5Arbitrary(t *testing.T) {
	s := state{seed: 4}
	good := 0
	for range 700 {
		text := s.text()
		m := parse(t, text)
		if types.Check(m) == api.ErrTooLong {
			checkCompile(t, text, 256, 0, api.ErrTooLong)
			continue
		}
		lowered, code := lower.Lower(m)
		want, errno := regalloc.Allocate(optimize.Optimize(lowered), 200)
		p, line, other := compiler.Compile(text, 200)
		if code != api.OK || line != 0 || errno != other || !isa.Equal(p, want) {
			t.Fatalf("%s\nbecomes %s, line %d, error %d, want %s, error %d", text, isa.Format(p), line, other, isa.Format(want), errno)
		}
		if built, code := compiler.Build(m, 200); code != errno || !isa.Equal(built, want) {
			t.Fatalf("Build of %s returns %s, error %d", text, isa.Format(built), code)
		}
		if errno != api.OK {
			continue
		}
		good++
		for range 6 {
			b, inputs := s.resources(), s.numbers(s.next(40))
			uniforms, before := slices.Clone(b.Uniforms), slices.Clone(inputs)
			if !compiler.Agree(m, p, b, inputs) || !agree(m, p, b, inputs) {
				t.Fatalf("%s\ndoes not agree with its program for %v and %v", text, b.Uniforms, inputs)
			}
			if !slices.Equal(uniforms, b.Uniforms) || !slices.Equal(before, inputs) {
				t.Fatal("Agree changed its arguments")
			}
		}
		if !parser.Equal(m, parse(t, text)) {
			t.Fatal("the module was changed")
		}
	}
	if good < 350 {
		t.Errorf("only %d programs were compared", good)
	}
}

// TestP27_5Separators compiles texts with other spaces, and with comments.
func TestP27_5Separators(t *testing.T) {
	s := state{seed: 6}
	for range 200 {
		text := s.text()
		words := strings.NewReplacer(";", " ; ", "(", " ( ", ")", " ) ", ",", " , ", ".", ".", "*", " * ", "{", " { ", "}", "}").Replace(text)
		var other strings.Builder
		for word := range strings.FieldsSeq(words) {
			other.WriteString(word)
			other.WriteString([]string{" ", "\n", "\t ", " // a comment; }\n", "\n\n//\n "}[s.next(5)])
		}
		p, _, code := compiler.Compile(text, 256)
		again, line, errno := compiler.Compile(other.String(), 256)
		if code == api.OK && other.Len() > api.MaxText {
			continue
		}
		if errno != code || line != 0 || !isa.Equal(p, again) {
			t.Errorf("%s\nbecomes another program, error %d instead of %d", other.String(), errno, code)
		}
	}
}

// agree is a second reading of P27.3.
func agree(m api.Module, p api.Program, b api.Bindings, inputs []int) bool {
	count := 0
	for _, f := range m.Inputs {
		count += len(kindsOf(m, len(m.Structs), f.Type))
	}
	ready := b
	ready.Uniforms = compiler.Prepare(m, m.Uniforms, b.Uniforms)
	all := append(slices.Clone(inputs), make([]int, 3*count)...)
	list := compiler.Prepare(m, m.Inputs, all[:count])
	if m.Stage == 3 {
		list = slices.Concat(list, compiler.Prepare(m, m.Inputs, all[count:2*count]), compiler.Prepare(m, m.Inputs, all[2*count:3*count]))
	}
	one, code := lower.LaneOf(p, ready, list)
	two, errno := interpreter.Run(m, ready, list)
	return code == 0 && errno == 0 && fmt.Sprint(one) == fmt.Sprint(two)
}

// checkAgree compares a module with the program of another text.
func checkAgree(t *testing.T, text, other string, b api.Bindings, inputs []int, want bool) {
	t.Helper()
	p, _, code := compiler.Compile(other, 256)
	if code != api.OK {
		t.Fatalf("the test is wrong: %s has error %d", other, code)
	}
	if got := compiler.Agree(parse(t, text), p, b, inputs); got != want {
		t.Errorf("%s and the program of %s for %v and %v: Agree is %t", text, other, b.Uniforms, inputs, got)
	}
}

func TestP27_3Agree(t *testing.T) {
	uniform := "uniform f: fixed; uniform h: half; uniform n: int; uniform b: bool; uniform v: vec2; "
	in := strings.ReplaceAll(uniform, "uniform", "in")
	out := "out o: fixed; out oh: half; out on: int; out ob: bool; out ov: vec2; "
	copies := "main { o = f; oh = h; on = n; ob = b; ov = v; }"
	huge := []int{1<<40 + 3, 2049 * one, 1 << 33, 6, math.MinInt, math.MaxInt}
	// Values are brought into their ranges before they are compared.
	for _, stage := range []string{"vertex", "geometry", "fragment"} {
		text := "shader " + stage + "; " + uniform + out + copies
		checkAgree(t, text, text, api.Bindings{Uniforms: huge}, nil, true)
		text = "shader " + stage + "; " + in + out + copies
		checkAgree(t, text, text, api.Bindings{}, huge[:5], true)
		checkAgree(t, text, text, api.Bindings{}, huge[:2], true)
		checkAgree(t, text, text, api.Bindings{}, nil, true)
		checkAgree(t, text, text, api.Bindings{}, slices.Repeat(huge, 9), true)
	}
	derivatives := "shader fragment; " + in + "in w: vec4; in s: fixed; out o: vec4; out ov: vec2; out of: fixed; main { o = ddx(w) + ddy(w) * 0.5; ov = ddx(v); of = ddy(s) + s; }"
	for count := range 34 {
		checkAgree(t, derivatives, derivatives, api.Bindings{}, slices.Repeat([]int{1<<40 + 3, -one, math.MinInt, 5}, 9)[:count], true)
	}
	// The derivatives are those behind the inputs.
	slope, steep := "shader fragment; in w: vec2; out o: vec2; main { o = ddx(w) + ddy(w) * 2.0; }", "shader fragment; in w: vec2; out o: vec2; main { o = w * 3.0; }"
	checkAgree(t, slope, slope, api.Bindings{}, []int{1, 2, 3, 4, 5, 6}, true)
	checkAgree(t, slope, steep, api.Bindings{}, []int{1, 2, 3, 4, 5, 6}, false)
	checkAgree(t, slope, steep, api.Bindings{}, []int{1, 2, 1, 2, 1, 2, 9}, true)
	checkAgree(t, slope, steep, api.Bindings{}, []int{1, 2, 1, 2, 1, 3}, false)
	checkAgree(t, slope, steep, api.Bindings{}, []int{1, 2, 1, 2, 1}, false)
	checkAgree(t, slope, steep, api.Bindings{}, []int{1, 2}, false)
	checkAgree(t, slope, steep, api.Bindings{}, nil, true)
	// A bool that is not 0 or 1 gives other results unless it is prepared.
	truth := "shader vertex; uniform b: bool; in c: bool; out o: int; main { if (b == c) { o = 1; } }"
	checkAgree(t, truth, "shader vertex; uniform b: bool; in c: bool; out o: int; main { if (b & c) { o = 1; } }", api.Bindings{Uniforms: []int{6}}, []int{9}, true)
	checkAgree(t, truth, "shader vertex; uniform b: bool; in c: bool; out o: int; main { if (b & c) { o = 1; } }", api.Bindings{Uniforms: []int{0}}, []int{0}, false)
}

// TestP27_3Different has programs with another result, another number of outputs, and errors.
func TestP27_3Different(t *testing.T) {
	vertex, fragment, geometry := "shader vertex; in i: int; out o: int; ", "shader fragment; in i: int; out o: int; ", "shader geometry; in i: int; out o: int; "
	for _, c := range []struct {
		text, other string
		want        bool
	}{
		{vertex + "main { o = i; }", vertex + "main { o = i + 0; }", true}, {vertex + "main { o = i; }", vertex + "main { o = i + 1; }", false}, {vertex + "main { o = i; }", vertex + "main { }", false}, {vertex + "main { }", vertex + "main { }", true}, {vertex + "main { }", vertex + "out p: int; main { }", false}, {vertex + "out p: int; main { }", vertex + "main { }", false}, {vertex + "main { o = 7; }", "shader vertex; out o: int; main { o = 7; }", true},
		{fragment + "main { o = i; discard; }", fragment + "main { o = i; discard; }", true}, {fragment + "main { o = i; discard; }", fragment + "main { o = i; }", false}, {fragment + "main { o = i; }", fragment + "main { o = i; discard; }", false}, {fragment + "main { o = i; discard; }", fragment + "main { discard; }", false},
		{geometry + "main { emit; o = i; }", geometry + "main { emit; o = i; }", true}, {geometry + "main { emit; o = i; }", geometry + "main { o = i; }", false}, {geometry + "main { emit; o = i; }", geometry + "main { o = i; emit; }", false}, {geometry + "main { emit; emit; }", geometry + "main { emit; }", false}, {geometry + "main { emit; cut; emit; }", geometry + "main { emit; emit; }", false}, {geometry + "main { emit; cut; emit; }", geometry + "main { emit; emit; cut; }", false}, {geometry + "main { emit; cut; cut; emit; }", geometry + "main { emit; cut; emit; }", true},
		// A module and the program of another stage.
		{vertex + "main { o = i; }", fragment + "main { o = i; }", true}, {fragment + "main { o = i; }", geometry + "main { o = i; }", true},
		// Modules that types.Check rejects.
		{"shader vertex; main { x = 1; }", "shader vertex; main { }", false}, {"shader vertex; main { discard; }", "shader fragment; main { discard; }", false},
	} {
		checkAgree(t, c.text, c.other, api.Bindings{}, []int{5}, c.want)
	}
	m := parse(t, vertex+"main { }")
	for _, p := range []api.Program{{}, {Stage: 1, Outputs: 33}, {Stage: 1, Outputs: 1, Code: []api.Instr{{}}}, {Stage: 1, Outputs: 1, Registers: -1}} {
		if compiler.Agree(m, p, api.Bindings{}, nil) || compiler.Agree(api.Module{}, p, api.Bindings{}, nil) {
			t.Errorf("a program with an error agrees: %v", p)
		}
	}
	if compiler.Agree(api.Module{}, api.Program{Stage: 1}, api.Bindings{}, nil) || compiler.Agree(api.Module{Stage: 4}, api.Program{Stage: 1}, api.Bindings{}, nil) {
		t.Error("a module with an error agrees")
	}
	if !compiler.Agree(api.Module{Stage: 1}, api.Program{Stage: 1}, api.Bindings{}, nil) {
		t.Error("the empty module does not agree with the empty program")
	}
}

func TestP27_4Report(t *testing.T) {
	p, _, _ := compiler.Compile("shader vertex; out o: fixed; main { o = 1.0 + 2.0; }", 9)
	for want, p := range map[string]api.Program{
		"stage 1 registers 1 instructions 3\nconst r0 0\nconst r0 196608\noutput r0 0\n": p,
		"stage 0 registers 0 instructions 0\n":                                           {},
		"stage 3 registers 8192 instructions 1\ndiscard\n":                               {Stage: 3, Registers: 8192, Inputs: 9, Outputs: 9, Code: []api.Instr{{Op: api.Discard}}},
		// Programs that are not valid have reports, too.
		"stage -9223372036854775808 registers 9223372036854775807 instructions 2\n?\nadd r1 r-2 r3\n": {Stage: math.MinInt, Registers: math.MaxInt, Code: []api.Instr{{Op: 99}, {Op: api.Add, Dst: 1, A: -2, B: 3}}},
		"stage 2 registers -1 instructions 12\n" + strings.Repeat("end-if\n", 12):                     {Stage: 2, Registers: -1, Code: slices.Repeat([]api.Instr{{Op: api.EndIf}}, 12)},
	} {
		if got := compiler.Report(p); got != want {
			t.Errorf("the report is %q, want %q", got, want)
		}
	}
}

// TestP27_1Memory changes programs, which share no memory.
func TestP27_1Memory(t *testing.T) {
	text := "shader vertex; in i: vec4; out o: vec4; main { o = i * 2.0; }"
	m := parse(t, text)
	first, _ := compiler.Build(m, 99)
	second, _ := compiler.Build(m, 99)
	clear(first.Code[:cap(first.Code)])
	third, _, _ := compiler.Compile(text, 99)
	if !isa.Equal(second, third) || isa.Equal(first, second) {
		t.Error("programs share memory")
	}
}
