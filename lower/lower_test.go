package lower_test

import (
	"fmt"
	"slices"
	"strings"
	"testing"

	"frustum/api"
	"frustum/interpreter"
	"frustum/isa"
	"frustum/lower"
	"frustum/minifloat"
	"frustum/parser"
	"frustum/printer"
	"frustum/types"
)

// parse returns the module with a text.
func parse(t *testing.T, text string) api.Module {
	t.Helper()
	m, line, code := parser.Parse(text)
	if code != api.OK {
		t.Fatalf("the test is wrong: the text %q has error %d in line %d", text, code, line)
	}
	return m
}

// ready returns values of a type that are in its range, made from numbers.
func ready(m api.Module, t api.Type, numbers func() int) []int {
	var list []int
	switch t.Kind {
	case api.HalfType:
		return []int{minifloat.Quantize(minifloat.Half(), numbers())}
	case api.IntType:
		return []int{int(int32(numbers()))}
	case api.BoolType:
		return []int{numbers() & 1}
	case api.StructType:
		for _, f := range m.Structs[types.FindStruct(m, t.Name)].Fields {
			list = append(list, ready(m, f.Type, numbers)...)
		}
		return list
	}
	for range types.Components(m, t) {
		list = append(list, min(max(-maxValue, numbers()), maxValue))
	}
	return list
}

func readyFields(m api.Module, fields []api.Field, numbers func() int) []int {
	var list []int
	for _, f := range fields {
		list = append(list, ready(m, f.Type, numbers)...)
	}
	return list
}

// shown returns the text of a module.
func shown(m api.Module) string {
	text, _ := printer.Print(m)
	return text
}

// checkLower compares the program of a module with the interpreter, and returns the second reading of its execution.
func checkLower(t *testing.T, m api.Module, b api.Bindings, inputs []int) reading {
	t.Helper()
	p, code := lower.Lower(m)
	if errno := isa.Validate(p); code != api.OK || errno != api.OK {
		t.Fatalf("the program of\n%shas error %d, and is valid: %d", shown(m), code, errno)
	}
	if p.Stage != m.Stage || p.Inputs != types.Total(m, m.Inputs) || p.Outputs != types.Total(m, m.Outputs) || p.Uniforms != types.Total(m, m.Uniforms) || p.Textures != len(m.Textures) || p.Buffers != len(m.Buffers) {
		t.Errorf("the program of\n%shas the numbers %+v", shown(m), p)
	}
	if again, _ := lower.Lower(m); !isa.Equal(p, again) {
		t.Errorf("the program of\n%sis different when it is made again", shown(m))
	}
	want, code := interpreter.Run(m, b, inputs)
	got, errno := lower.LaneOf(p, b, inputs)
	if code != api.OK || errno != api.OK || !equal(got, want) {
		t.Errorf("the result of\n%swith %v and %v is %v, error %d, and that of its program %v, error %d:\n%s", shown(m), b.Uniforms, inputs, want, code, got, errno, isa.Format(p))
	}
	r := expected(p, b, inputs)
	if !equal(r.result, want) {
		t.Errorf("the result of\n%sis %v, and in the second reading %v", shown(m), want, r.result)
	}
	if len(r.early) > 0 {
		t.Errorf("the program of\n%sreads a register before it is written: %v in\n%s", shown(m), r.early[0], isa.Format(p))
	}
	return r
}

func TestP23_2Example(t *testing.T) {
	p, code := lower.Lower(parse(t, "shader vertex; out o: fixed; main { o = 1.0; }"))
	result, errno := lower.LaneOf(p, api.Bindings{}, nil)
	if code != api.OK || errno != api.OK || !equal(result, api.LaneResult{Outputs: []int{65536}}) {
		t.Errorf("the result is %v, errors %d and %d", result, code, errno)
	}
}

// operands has uniforms of all types to compute with, two of each.
const operands = `struct S { n: int; v: vec2; b: bool; h: half; } struct T { s: S; f: fixed; }
	uniform f: fixed; uniform f2: fixed; uniform h: half; uniform h2: half; uniform n: int; uniform n2: int; uniform b: bool; uniform b2: bool;
	uniform v2: vec2; uniform w2: vec2; uniform v3: vec3; uniform w3: vec3; uniform v4: vec4; uniform w4: vec4; uniform s: S; uniform t: T;
	texture tex; texture tex2; buffer buf; buffer buf2;
	in i: fixed; in j: vec3; in k: T; in l: vec2;
	fn twice(a: fixed) -> fixed { return a + a; } fn four(a: fixed) -> fixed { let c: fixed = twice(a); c = twice(c); return c; }
	fn swap(a: vec2, q: int) -> vec2 { let c: vec2 = a; if (q == 0) { c = vec2(a.y, a.x); } else { c[q] = a.x; } return c; } fn pair(a: int) -> S { let c: S = s; c.n = a; c.v = swap(c.v, a & 3); return c; } fn same(c: T) -> T { return c; } `

// checkExpr compares the program of an expression with the interpreter, for many values of the uniforms and inputs.
func checkExpr(t *testing.T, text string, rounds int) {
	t.Helper()
	globals := parse(t, "shader fragment; "+operands+"main { }")
	e, _, code := parser.ParseExpr(text)
	of, errno := types.ExprType(globals, nil, e)
	if code != api.OK || errno != api.OK {
		t.Fatalf("the test is wrong: the expression %s has error %d or %d", text, code, errno)
	}
	m := parse(t, "shader fragment; "+operands+"out o: "+word(of)+"; main { o = "+text+"; }")
	s := state(1)
	for round := range rounds {
		b := resources()
		b.Uniforms = readyFields(m, m.Uniforms, s.number)
		inputs := slices.Concat(readyFields(m, m.Inputs, s.number), readyFields(m, m.Inputs, s.number), readyFields(m, m.Inputs, s.number))
		switch round % 10 {
		case 8:
			b = api.Bindings{}
		case 9:
			inputs, b.Uniforms = inputs[:s.next(len(inputs))], b.Uniforms[:s.next(len(b.Uniforms))]
		}
		checkLower(t, m, b, inputs)
	}
}

// TestP23_2Operators has each operator with each pair of types.
func TestP23_2Operators(t *testing.T) {
	names := map[string][2]string{"fixed": {"f", "f2"}, "half": {"h", "h2"}, "int": {"n", "n2"}, "bool": {"b", "b2"}, "vec2": {"v2", "w2"}, "vec3": {"v3", "w3"}, "vec4": {"v4", "w4"}}
	globals := parse(t, "shader fragment; "+operands+"main { }")
	count := 0
	for _, sign := range []string{"+", "-", "*", "/", "%", "&", "|", "^", "<<", ">>", "<", "<=", ">", ">=", "==", "!="} {
		for _, left := range simpleTypes() {
			for _, right := range simpleTypes() {
				text := names[word(left)][0] + " " + sign + " " + names[word(right)][1]
				e, _, _ := parser.ParseExpr(text)
				if _, code := types.ExprType(globals, nil, e); code == api.OK {
					checkExpr(t, text, 40)
					count++
				}
			}
		}
	}
	if count != 6*4+3*2+3+2*3+4*3+2*7 {
		t.Errorf("there are %d pairs of operands", count)
	}
	for _, text := range []string{"-f", "-h", "-n", "-v2", "-v3", "-v4", "!n", "!b", "--f", "!!b", "-(-n)"} {
		checkExpr(t, text, 40)
	}
	// Equal operands.
	for _, pair := range names {
		checkExpr(t, pair[0]+" == "+pair[0], 5)
		checkExpr(t, pair[0]+" != "+pair[0], 5)
	}
}

func TestP23_2Expressions(t *testing.T) {
	for _, text := range []string{
		"1.5", "0.0", "8191.99999", "7", "2147483647", "true", "false", "f", "s", "t", "k", "j", "i", "v4",
		"fixed(n)", "fixed(h)", "fixed(b)", "half(f)", "half(2049.0)", "int(f)", "int(b)", "bool(n)", "vec2(f, f2)", "vec2(v2)", "vec3(v2, f)", "vec3(f, w2)", "vec3(f, f2, 0.5)", "vec4(v2, w2)", "vec4(v3, f)", "vec4(f, v3)", "vec4(f, v2, f2)", "vec4(f, f, f2, f2)", "S(n, v2, b, h)", "T(s, f)", "T(S(1, w2, true, h2), 0.5)", "T(k.s, j.x)",
		"v2.x", "v2.y", "v3.z", "v4.w", "v4.x", "s.n", "s.v", "s.v.y", "s.b", "s.h", "t.s", "t.s.v.x", "t.f", "k.s.h", "k.f", "l.y", "S(n, v2, b, h).v.y", "vec2(f, f2).y", "same(k).s.v",
		"v2[n]", "v3[n & 3]", "v4[(n & 7) - 2]", "v4[0]", "v4[3]", "v4[4]", "v3[-1]", "v2[2]", "s.v[n & 1]", "k.s.v[n2 & 3]", "(v3 + w3)[n & 1]", "j[int(j[n & 3]) & 3]",
		"min(f, f2)", "min(h, h2)", "min(n, n2)", "min(v2, w2)", "min(v3, w3)", "min(v4, w4)", "max(f, f2)", "max(h, h2)", "max(n, n2)", "max(v2, w2)", "max(v3, w3)", "max(v4, w4)", "clamp(f, f2, 0.5)", "clamp(h, h2, half(0.5))", "clamp(n, n2, 5)", "clamp(v2, w2, l)", "clamp(v3, w3, j)", "clamp(v4, w4, v4)", "abs(f)", "abs(h)", "abs(n)", "abs(v2)", "abs(v3)", "abs(v4)", "floor(f)", "fract(f)", "sqrt(f)", "dot(v2, w2)", "dot(v3, w3)", "dot(v4, w4)", "mix(f, f2, i)", "mix(v2, w2, i)", "mix(v3, w3, f)", "mix(v4, w4, 0.25)", "int(dot(v2, w2))", "min(n, n2) / 2", "abs(h) + h2",
		"sample(tex, v2, f)", "sample(tex2, l, f2)", "sample(tex, vec2(0.25, 0.75), 0.5)", "sample(tex2, w2, f).z", "fetch(tex, n, n2, 0)", "fetch(tex2, n & 3, n2 & 3, n & 1)", "fetch(tex, n & 3, n2 & 1, 0).y", "load(buf, n)", "load(buf, n & 3)", "load(buf2, n & 1)", "load(buf, load(buf, 0))",
		"ddx(i)", "ddy(i)", "ddx(j)", "ddy(j)", "ddx(l)", "ddy(l).y", "ddx(l) * ddy(l)", "ddx(j)[n & 3]",
		"twice(f)", "four(f)", "four(four(f) * 0.01)", "swap(v2, 0)", "swap(v2, n & 3)", "swap(swap(l, n), n2)", "pair(n)", "pair(1).v", "same(k)", "same(same(t)).s", "swap(pair(n & 1).v, pair(n2).n)",
		"f + f2 * i - f / f2", "(n + n2) * (n - n2) % (n2 | 1)", "b & (f < f2) | !b2 ^ (n == n2)", "vec4(v2 * 2.0, w2 / f) + v4 * w4",
	} {
		checkExpr(t, text, 40)
	}
}

// checkMain compares the programs of statements in each stage that they are for with the interpreter.
func checkMain(t *testing.T, stages, statements string) reading {
	t.Helper()
	var last reading
	for _, stage := range strings.Fields(stages) {
		m := parse(t, "shader "+stage+"; "+operands+"out o: fixed; out ov: vec3; out os: S; out on: int; main { "+statements+" }")
		s := state(2)
		for range 30 {
			b := resources()
			b.Uniforms = readyFields(m, m.Uniforms, s.number)
			last = checkLower(t, m, b, slices.Concat(readyFields(m, m.Inputs, s.number), readyFields(m, m.Inputs, s.number), readyFields(m, m.Inputs, s.number)))
		}
	}
	return last
}

func TestP23_2Statements(t *testing.T) {
	for _, text := range []string{
		"", "o = f;", "on = n; on = on + 1; on = on * on;", "let a: int = on; on = 7; os.n = a;", "let a: vec3 = v3; let c: vec3 = a; a.x = 1.0; ov = c + a; c = ov; ov.y = c.z;",
		"ov = v3; ov = vec3(ov.z, ov.x, ov.y);", "os = s; os = S(on, vec2(os.v.y, os.v.x), os.b, os.h);", "os.v = v2; os.v = vec2(os.v.y, os.v.x); os.v.x = os.v.y;", "ov = v3; ov.x = ov.y; ov.y = ov.x;", "let a: T = t; a.s.v = w2; a.s.v.y = a.f; a.s = pair(n); os = a.s; o = a.f;",
		"ov[n] = 1.0;", "ov = v3; ov[n & 3] = f; ov[n2 & 3] = f2; ov[-1] = 5.0; ov[3] = 6.0;", "ov = v3; ov[n & 3] = ov[n2 & 3]; ov[int(ov.x) & 3] = ov.y;", "ov = v3; ov[1] = ov.x; ov[0] = ov.z; ov[2] = ov.y;", "os.v[n & 1] = f; os.v[n2] = os.v.x;", "let a: vec2 = v2; a[n & 3] = a.y; a[0] = a[1]; os.v = a;", "let a: int = 1; ov[a] = fixed(a); a = 2; ov[a] = fixed(a) + 0.5;",
		"if (b) { o = f; }", "if (b) { o = f; } else { o = f2; }", "if (b) { } else { on = 1; }", "if (b) { on = 1; } else { }", "if (b) { if (b2) { on = 1; } else { on = 2; } on = on + 10; } else { if (b2) { on = 3; } } os.n = on;", "let a: int = 0; if (n > n2) { a = n; let c: int = a; a = c + 1; } else { let c: int = n2; a = c; } on = a;", "if (f < f2 & !b | b2) { o = f; }",
		"loop 5 { on = on + n; }", "loop 16 { on = on + 1; if (on > (n & 15)) { break; } }", "loop 16 { on = on + 1; if (on % 3 == 0) { continue; } os.n = os.n + on; }", "loop 3 { loop 4 { loop 5 { on = on + 1; if (on == (n & 63)) { break; } if (on > (n2 & 63)) { continue; } os.n = os.n + 1; } if (b) { continue; } o = o + 0.5; } if (b2) { break; } ov.x = ov.x + 1.0; }", "loop 4 { let a: int = on; loop 2 { let c: int = a; a = c + n; if (a > 5) { break; } } on = a; }", "loop 2 { break; on = 1; } loop 2 { continue; on = 1; }", "loop 3 { if (b) { if (b2) { on = on + 1; break; } else { on = on + 2; continue; } on = 100; } on = on + 3; }",
		"loop 3 { o = four(o + f); if (o > 1.0) { ov = vec3(swap(v2, on), o); } on = on + 1; }", "on = pair(n).n; os = pair(n2); os.v = swap(os.v, on & 1);",
	} {
		checkMain(t, "vertex geometry fragment", text)
	}
}

func TestP23_2Discard(t *testing.T) {
	for _, text := range []string{"discard;", "o = f; discard; o = f2;", "o = f; if (b) { on = 1; discard; on = 2; } on = 3;", "if (b) { } else { discard; } on = 1;", "loop 5 { on = on + 1; if (on == (n & 7)) { discard; } } os.n = 1;", "loop 5 { loop 5 { loop 5 { on = on + 1; if (on == (n & 127)) { discard; } if (b) { break; } } os.n = os.n + 1; } }", "ov = ddx(j); if (n > 0) { ov[n & 3] = f; discard; }"} {
		checkMain(t, "fragment", text)
	}
}

func TestP23_2Emit(t *testing.T) {
	for _, text := range []string{"emit;", "cut;", "o = f; emit; o = f2; emit; cut; on = 1;", "cut; emit; cut; cut; emit;", "loop 12 { on = on + 1; emit; }", "loop 16 { on = on + 1; emit; }", "loop 5 { on = on + 1; loop 5 { os.n = os.n + 1; emit; if (os.n > (n & 15)) { cut; } } cut; }", "loop 16 { if (on == (n & 15)) { continue; } emit; on = on + 1; if (b) { cut; break; } }", "loop 15 { ov[on & 3] = f; emit; on = on + 1; cut; }"} {
		checkMain(t, "geometry", text)
	}
}

// TestP23_2Names has functions with variables that have the names of outputs and of later functions, and modules without outputs.
func TestP23_2Names(t *testing.T) {
	for _, text := range []string{
		"out o: int; out p: vec2; fn f(a: int) -> int { let o: int = a; let p: int = o; let g: int = 5; o = o + p * g; return o; } fn g(a: vec2) -> vec2 { let p: vec2 = a; p.x = p.y; p[1] = 3.0; return p; } main { o = f(o + 1) + f(2); p = g(p) + g(vec2(1.0, 2.0)); let f2: int = f(o); o = o - f2; }",
		"main { }", "in a: int; uniform b: vec4; main { let c: vec4 = b; c.x = fixed(a); }", "out a: vec4; out b: vec2; out c: int; main { b = vec2(1.0, 2.0); a = vec4(b, b); c = 5; b.y = a.x; a[c - 3] = 9.0; }",
		"struct A { x: int; } struct B { a: A; y: vec2; c: A; } struct C { b: B; z: fixed; d: B; } out o: C; main { o.b.c.x = 5; o.d = o.b; o.d.y.y = 2.0; o.z = o.d.y.y; o.b = o.d; let e: C = o; e.d.a.x = 7; o.d.c = e.d.a; }",
	} {
		for _, stage := range []string{"vertex", "geometry", "fragment"} {
			checkLower(t, parse(t, "shader "+stage+"; "+text), api.Bindings{Uniforms: []int{1, 2, 3, 4}}, []int{7})
		}
	}
}

// TestP23_2Heaviest has modules with as much weight as there may be.
func TestP23_2Heaviest(t *testing.T) {
	for _, statement := range []string{
		"o = mix(o, o, o);", "o = -o;", "oh = -oh;", "oh = clamp(oh, oh, oh);", "on = 1;", "ob = ov == ov;", "ob = ov != ov;", "o = ov[on];", "ov[on] = o;", "o = dot(ov, ov);", "ov = sample(t, o2, o);", "ov = u;", "o = u.x;", "ov = ov * o;", "if (ob) { }", "if (ob) { on = 1; } else { on = 2; }", "loop 16 { }", "o = f(o);", "on = load(b, on);", "o = o2[0];", "if (ob) { let a: fixed = mix(o, o, o); }", "let v$: fixed = o;", "let v$: half = abs(-oh);", "let v$: vec2 = mix(o2, o2, o2[on]);", "big.v = big.v + big.v;", "big = big;", "o = big.v.x;", "on = on << on;",
	} {
		count, heaviest := 0, api.Module{}
		for {
			text := "shader fragment; struct B { v: vec4; w: vec4; x: vec4; } texture t; buffer b; uniform u: vec4; out o: fixed; out oh: half; out on: int; out ob: bool; out ov: vec4; out o2: vec2; out big: B; fn f(a: fixed) -> fixed { return mix(a, a, a); } main { "
			for i := range count {
				text += strings.ReplaceAll(statement, "$", fmt.Sprint(i))
			}
			m, _, code := parser.Parse(text + " }")
			if code != api.OK || types.Check(m) != api.OK {
				break
			}
			heaviest = m
			count++
		}
		if count < 5 {
			t.Fatalf("the test is wrong: %s is possible %d times only", statement, count)
		}
		checkLower(t, heaviest, resources(), nil)
	}
}

func TestP23_2Rejected(t *testing.T) {
	list := []api.Module{{}, {Stage: 4}, {Stage: 1, Main: []api.Stmt{{}}}}
	for _, text := range []string{"struct S { } main { }", "uniform a: int; in a: int; main { }", "in a: S; main { }", "main { x = 1; }", "out o: int; main { o = 1.0; }", "main { break; }", "main { loop 17 { } }", "main { discard; }", "main { emit; }", "in i: int; main { i = 1; }", "out o: int; main { if (o) { } }", "main { loop 1 { loop 1 { loop 1 { loop 1 { } } } } }", "fn f() -> int { return f(); } main { }", "out o: int; fn f() -> int { return o; } main { }", "out o: int; main { 1 = 2; }", "out o: vec4; main {" + strings.Repeat("o = o * 2.0;", 40) + "}"} {
		list = append(list, parse(t, "shader vertex; "+text))
	}
	for _, m := range list {
		if p, code := lower.Lower(m); code != api.ErrShader || !isa.Equal(p, api.Program{}) {
			t.Errorf("the program of a module with an error is %+v, error %d", p, code)
		}
	}
}

// TestP23_2Memory checks that Lower does not change the module, and that programs share no memory.
func TestP23_2Memory(t *testing.T) {
	text := "shader vertex; " + operands + "out o: fixed; out os: S; main { o = four(f); if (b) { os = pair(n); } loop 3 { os.n = os.n + 1; } }"
	m := parse(t, text)
	first, _ := lower.Lower(m)
	second, _ := lower.Lower(m)
	clear(first.Code[:cap(first.Code)])
	third, _ := lower.Lower(m)
	if !isa.Equal(second, third) || isa.Equal(first, second) || !parser.Equal(m, parse(t, text)) {
		t.Error("programs share memory, or Lower changes the module")
	}
}

// TestP23_4Arbitrary compares the programs of arbitrary modules with the interpreter.
func TestP23_4Arbitrary(t *testing.T) {
	w := writer{state: 1}
	seen := map[api.Opcode]int{}
	good, stopped := 0, 0
	for range 4000 {
		m := w.module()
		if types.Check(m) != api.OK {
			continue
		}
		good++
		for round := range 3 {
			b := resources()
			b.Uniforms = readyFields(m, m.Uniforms, w.number)
			inputs := slices.Concat(readyFields(m, m.Inputs, w.number), readyFields(m, m.Inputs, w.number), readyFields(m, m.Inputs, w.number))
			if round == 2 {
				b.Textures, b.Uniforms, inputs = b.Textures[:w.next(3)], b.Uniforms[:w.next(len(b.Uniforms)+1)], inputs[:w.next(len(inputs)+1)]
			}
			r := checkLower(t, m, b, inputs)
			for op := range r.seen {
				seen[op]++
			}
			stopped += len(r.result.Emitted)
			if r.result.Discarded {
				stopped++
			}
		}
	}
	if good < 2000 || stopped < 500 {
		t.Errorf("only %d modules are valid, and %d events were seen", good, stopped)
	}
	for op := api.Const; op <= api.Cut; op++ {
		if seen[op] < 50 && op != api.NotEqual && op != api.Else && op != api.EndIf && op != api.EndLoop {
			t.Errorf("%s was executed in %d programs only", isa.Name(op), seen[op])
		}
	}
}
