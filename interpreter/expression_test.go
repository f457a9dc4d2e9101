package interpreter_test

import (
	"fmt"
	"math"
	"slices"
	"testing"

	"frustum/api"
	"frustum/interpreter"
	"frustum/mipmap"
	"frustum/parser"
	"frustum/sampler"
)

// parse returns the module with a text.
func parse(t *testing.T, text string) api.Module {
	t.Helper()
	m, line, code := parser.Parse(text)
	if code != api.OK {
		t.Fatalf("the test is wrong: the text %q has error %d in line %d", text, code, line)
	}
	return m
}

// parseExpr returns the expression with a text.
func parseExpr(t *testing.T, text string) api.Expr {
	t.Helper()
	e, line, code := parser.ParseExpr(text)
	if code != api.OK {
		t.Fatalf("the test is wrong: the text %q has error %d in line %d", text, code, line)
	}
	return e
}

// globals returns a module with globals of all kinds, and an empty Main.
func globals(t *testing.T) api.Module {
	return parse(t, `shader fragment;
		struct S { a: int; v: vec2; h: half; b: bool; }
		struct T { s: S; c: vec3; }
		texture first; buffer numbers; texture second; buffer none; buffer others;
		uniform uf: fixed; uniform un: int; uniform us: S; uniform uv: vec4; uniform hidden: int;
		in if0: fixed; in iv: vec3; in ib: bool; in it: T; in ih: half;
		out of: fixed; out os: S; out ov: vec2;
		fn twice(a: fixed) -> fixed { return a + a; }
		fn four(a: fixed) -> fixed { return twice(twice(a)); }
		fn larger(a: int, b: int) -> int { let c: int = a; if (b > a) { c = b; } else { if (a == 7) { c = 70; } } return c; }
		fn pair(a: int) -> S { let s: S = S(a, vec2(uf, uf * 2.0), half(1.5), a > 3); s.v.y = four(s.v.y); return s; }
		fn unhidden() -> int { return hidden; }
		fn inner(t: T) -> S { return t.s; }
		fn swap(v: vec2) -> vec2 { let of: vec2 = v; of.x = v.y; of[1] = v.x; return of; }
		main { }`)
}

// inputs returns the inputs of globals and their derivatives: the number k of list n is 1000 * n + k + 1.
func inputs() []int {
	var list []int
	for n := range 3 {
		for k := range 14 {
			list = append(list, 1000*n+k+1)
		}
	}
	return list
}

// bound returns resources with the uniforms 2.0, 11, (21, (22, 23), 0.5, true), (31, 32, 33, 34) and 35.
func bound() api.Bindings {
	b := resources()
	b.Uniforms = []int{2 * one, 11, 21, 22, 23, one / 2, 1, 31, 32, 33, 34, 35}
	return b
}

// scope returns variables with the names of their types; some have the names of globals.
func scope() ([]api.Field, []int) {
	fields := []api.Field{{Name: "f", Type: fixedType}, {Name: "h", Type: halfType}, {Name: "n", Type: intType}, {Name: "b", Type: boolType}, {Name: "v2", Type: vec2Type}, {Name: "v3", Type: vec3Type}, {Name: "v4", Type: vec4Type}, {Name: "s", Type: structType("S")}, {Name: "t", Type: structType("T")}, {Name: "ih", Type: intType}, {Name: "d", Type: intType}, {Name: "d", Type: vec2Type}, {Name: "first", Type: boolType}, {Name: "hidden", Type: vec2Type}, {Name: "e", Type: structType("X")}, {Name: "e", Type: api.Type{Kind: 9}}, {Name: "last", Type: vec2Type}}
	return fields, []int{3 * one, one / 4, -5, 1, 41, 42, 51, 52, 53, 61, 62, 63, 64, 7, 71, 72, one, 0, 8, 81, 82, one / 8, 1, 83, 84, 85, 99, 1, 2, 3, 1, 91, 92, 93, 94}
}

func checkEval(t *testing.T, m api.Module, text string, want ...int) {
	t.Helper()
	fields, values := scope()
	got, code := interpreter.Eval(m, bound(), inputs(), fields, values, parseExpr(t, text))
	if code != api.OK || !slices.Equal(got, want) {
		t.Errorf("the value of %s is %v, error %d, want %v", text, got, code, want)
	}
}

func TestP21_4Eval(t *testing.T) {
	m := globals(t)
	for text, want := range map[string][]int{
		"1.5": {98304}, "0.0": {0}, "8191.99999": {maxValue}, "7": {7}, "0": {0}, "2147483647": {1<<31 - 1}, "true": {1}, "false": {0},
		// Variables, uniforms, inputs and outputs; the last variable with a name counts, and hides a global.
		"f": {3 * one}, "h": {one / 4}, "n": {-5}, "b": {1}, "v2": {41, 42}, "v3": {51, 52, 53}, "v4": {61, 62, 63, 64}, "s": {7, 71, 72, one, 0}, "t": {8, 81, 82, one / 8, 1, 83, 84, 85}, "d": {2, 3}, "ih": {99}, "first": {1}, "hidden": {91, 92}, "e": nil, "last": {93, 94},
		"uf": {2 * one}, "un": {11}, "us": {21, 22, 23, one / 2, 1}, "uv": {31, 32, 33, 34}, "if0": {1}, "iv": {2, 3, 4}, "ib": {1}, "it": {6, 7, 8, 9, 1, 11, 12, 13}, "of": {0}, "os": {0, 0, 0, 0, 0}, "ov": {0, 0},
		// Operators.
		"-f": {-3 * one}, "-h": {-one / 4}, "-n": {5}, "-v3": {-51, -52, -53}, "!n": {4}, "!b": {0}, "!!b": {1}, "!(n < 0)": {0},
		"f + 0.5": {7 * one / 2}, "f - 0.5": {5 * one / 2}, "f * 0.5": {3 * one / 2}, "f / 2.0": {3 * one / 2}, "h + h": {one / 2}, "h * half(0.5)": {one / 8}, "half(1.0) / half(3.0)": {21840}, "half(2048.0) + half(1.0)": {2048 * one},
		"n + 3": {-2}, "n - 3": {-8}, "n * n": {25}, "n / 2": {-2}, "n % 2": {-1}, "n / 0": {0}, "n % 0": {0}, "n & 6": {2}, "n | 6": {-1}, "n ^ 6": {-3}, "n << 1": {-10}, "n >> 1": {-3}, "1 << 31": {-1 << 31}, "1 << 32": {1}, "2147483647 + 1": {-1 << 31},
		"b & false": {0}, "b | false": {1}, "b ^ true": {0}, "f < 3.0": {0}, "f <= 3.0": {1}, "f > 2.0": {1}, "f >= 4.0": {0}, "f == 3.0": {1}, "f != 3.0": {0}, "n < 0": {1}, "h == half(0.25)": {1}, "b == true": {1}, "v2 == vec2(0.0, 0.0)": {0}, "v2 != vec2(0.0, 0.0)": {1}, "v2 == v2": {1}, "v3 != v3": {0},
		"v2 + v2": {82, 84}, "v2 * 2.0": {82, 84}, "v2 / 0.5": {82, 84}, "v4 - v4": {0, 0, 0, 0}, "vec2(1.0, 2.0) * vec2(3.0, 0.5)": {3 * one, one}, "v2 / 0.0": {maxValue, maxValue}, "f + f * f": {12 * one}, "(f + f) * f": {18 * one}, "1.0 - 2.0 - 3.0": {-4 * one}, "-(f - 4.0) * 2.0": {2 * one},
		// Constructors.
		"fixed(n)": {-5 * one}, "fixed(8191)": {8191 * one}, "fixed(8192)": {maxValue}, "fixed(-8192)": {-maxValue}, "fixed(2147483647)": {maxValue}, "fixed(h)": {one / 4}, "fixed(true)": {one}, "fixed(false)": {0}, "half(f)": {3 * one}, "half(2049.0)": {2048 * one}, "half(0.33333)": {21840}, "int(1.5)": {1}, "int(-1.5)": {-2}, "int(-0.5)": {-1}, "int(8191.99999)": {8191}, "int(true)": {1}, "int(false)": {0}, "bool(n)": {1}, "bool(0)": {0}, "bool(1)": {1}, "bool(-2147483647 - 1)": {1},
		"vec2(1.0, f)": {one, 3 * one}, "vec2(v2)": {41, 42}, "vec3(v2, f)": {41, 42, 3 * one}, "vec3(f, v2)": {3 * one, 41, 42}, "vec3(f, f, 0.5)": {3 * one, 3 * one, one / 2}, "vec4(v2, v2)": {41, 42, 41, 42}, "vec4(v3, 0.5)": {51, 52, 53, one / 2}, "vec4(0.5, v2, 1.5)": {one / 2, 41, 42, 3 * one / 2}, "vec4(v4)": {61, 62, 63, 64},
		"S(n, v2, h, b)": {-5, 41, 42, one / 4, 1}, "T(s, v3)": {7, 71, 72, one, 0, 51, 52, 53}, "T(S(1, v2, half(f), false), vec3(f, v2))": {1, 41, 42, 3 * one, 0, 3 * one, 41, 42},
		// Members and indices.
		"v2.x": {41}, "v2.y": {42}, "v3.z": {53}, "v4.x": {61}, "v4.w": {64}, "s.a": {7}, "s.v": {71, 72}, "s.v.y": {72}, "s.h": {one}, "s.b": {0}, "t.s": {8, 81, 82, one / 8, 1}, "t.s.v": {81, 82}, "t.s.v.x": {81}, "t.s.b": {1}, "t.c": {83, 84, 85}, "t.c.z": {85}, "us.v.y": {23}, "it.c": {11, 12, 13}, "vec2(f, 0.5).y": {one / 2}, "S(1, v2, h, b).v": {41, 42}, "os.v.x": {0},
		"v4[0]": {61}, "v4[1]": {62}, "v4[3]": {64}, "v4[4]": {0}, "v4[-1]": {0}, "v3[3]": {0}, "v2[2]": {0}, "v2[1]": {42}, "v2[n]": {0}, "v4[n + 6]": {62}, "v4[2147483647]": {0}, "v4[-2147483647 - 1]": {0}, "t.c[2]": {85}, "(v2 * 2.0)[1]": {84}, "ov[0]": {0}, "v4[int(v2[1] * 1561.0)]": {62},
		// Built-in functions of numbers.
		"min(f, 2.0)": {2 * one}, "max(n, -6)": {-5}, "clamp(f, 0.0, 1.0)": {one}, "clamp(n, 3, 1)": {1}, "abs(-f)": {3 * one}, "abs(n)": {5}, "abs(v2 - v2 * 2.0)": {41, 42}, "floor(-0.5)": {-one}, "fract(-0.25)": {3 * one / 4}, "sqrt(4.0)": {2 * one}, "dot(v2, vec2(1.0, 2.0))": {125}, "mix(v2, v2 * 3.0, 0.5)": {82, 84}, "mix(0.0, f, 2.0)": {3 * one}, "min(h, half(1.0))": {one / 4}, "dot(v2, v2) + 1.0": {one}, "max(v2, vec2(0.0, 1.0))": {41, one},
		"int(dot(vec2(1.5, 1.0), vec2(1.0, 1.0)))": {2}, "max(n, 5) / 2": {2}, "abs(n) << 31": {-1 << 31}, "min(half(2048.0), half(4096.0)) + half(1.0)": {2048 * one}, "int(floor(1.5)) / 2": {0}, "mix(v2, v2, f) == v2": {1}, "clamp(n, 0, 7) % 4": {0},
		// Functions, also those that call others.
		"twice(f)": {6 * one}, "four(f)": {12 * one}, "four(four(0.5))": {8 * one}, "larger(1, 2)": {2}, "larger(2, 1)": {2}, "larger(7, 1)": {70}, "larger(7, 8)": {8}, "larger(n, larger(7, 7))": {70}, "pair(3)": {3, 2 * one, 16 * one, 3 * one / 2, 0}, "pair(4)": {4, 2 * one, 16 * one, 3 * one / 2, 1}, "pair(4).v.y": {16 * one}, "inner(t)": {8, 81, 82, one / 8, 1}, "inner(T(s, v3)).v": {71, 72}, "unhidden()": {35}, "swap(v2)": {42, 41}, "swap(swap(v2))": {41, 42},
		// Derivatives. A variable of the same name hides only inputs.
		"ddx(if0)": {1001}, "ddy(if0)": {2001}, "ddx(iv)": {1002, 1003, 1004}, "ddy(iv)": {2002, 2003, 2004}, "ddy(iv).z": {2004}, "ddx(iv) + ddy(iv)": {3004, 3006, 3008},
		"load(numbers, 0)": {1}, "load(numbers, 1)": {-1}, "load(numbers, 2)": {0}, "load(numbers, n)": {0}, "load(none, 0)": {0}, "load(others, 0)": {-1 << 31}, "load(others, load(numbers, 0))": {0x7f070707},
	} {
		checkEval(t, m, text, want...)
	}
}

func TestP21_4Textures(t *testing.T) {
	m, b := globals(t), bound()
	list := func(v api.Vec4) []int { return []int{v.X, v.Y, v.Z, v.W} }
	checkEval(t, m, "sample(first, vec2(0.3, 0.7), 0.5)", list(sampler.Sample(b.Textures[0], b.Samplers[0], 19661, 45875, one/2))...)
	checkEval(t, m, "sample(second, v2, -f)", list(sampler.Sample(b.Textures[1], b.Samplers[1], 41, 42, -3*one))...)
	checkEval(t, m, "sample(second, vec2(0.7, 0.3), f).z", sampler.Sample(b.Textures[1], b.Samplers[1], 45875, 19661, 3*one).Z)
	checkEval(t, m, "fetch(first, 1, 0, 0)", list(mipmap.Get(b.Textures[0], 1, 0, 0))...)
	checkEval(t, m, "fetch(first, 0, 1, 0)", list(mipmap.Get(b.Textures[0], 0, 1, 0))...)
	checkEval(t, m, "fetch(second, 2, 1, 0)", list(mipmap.Get(b.Textures[1], 2, 1, 0))...)
	checkEval(t, m, "fetch(first, 1, 0, 1)", list(mipmap.Get(b.Textures[0], 1, 0, 1))...)
	checkEval(t, m, "fetch(first, 1, 0, n)", 0, 0, 0, 0)
	// Resources that are not bound.
	for text, want := range map[string]int{"sample(second, vec2(0.1, 0.2), 0.0)": 4, "fetch(second, 0, 0, 0)": 4, "load(numbers, 0)": 1, "load(others, 0)": 1} {
		got, code := interpreter.Eval(m, api.Bindings{Textures: b.Textures[:1], Samplers: b.Samplers}, nil, nil, nil, parseExpr(t, text))
		if code != api.OK || !slices.Equal(got, make([]int, want)) {
			t.Errorf("without its resource the value of %s is %v, error %d", text, got, code)
		}
	}
}

// TestP21_4Ranges has values that are beyond the ranges of their types.
func TestP21_4Ranges(t *testing.T) {
	m := parse(t, `shader fragment; struct S { f: fixed; n: int; b: bool; h: half; v: vec2; }
		uniform us: S; in is: S; in iv: vec3; in if0: fixed; out o: int; fn f(s: S) -> S { return s; } main { }`)
	wild := []int{math.MaxInt, 1 << 31, -7, 2049 * one, maxValue + 1, math.MinInt}
	tame := []int{maxValue, -1 << 31, 1, 2049 * one, maxValue, -maxValue}
	fields := []api.Field{{Name: "s", Type: structType("S")}, {Name: "v", Type: vec4Type}, {Name: "b", Type: boolType}, {Name: "h", Type: halfType}}
	values := slices.Concat(wild, []int{maxValue + 1, -maxValue - 1, 1 << 40, 5}, []int{1 << 32}, []int{math.MinInt})
	list := slices.Concat(wild, []int{1 << 60, -1 << 60, 7, 8}, make([]int, 6), []int{1 << 40, -1 << 40, 9, 1 << 50}, make([]int, 6), []int{-1 << 40, 10, 11, -1 << 50})
	for text, want := range map[string][]int{
		"us": tame, "is": tame, "s": tame, "f(s)": tame, "f(us)": tame, "v": {maxValue, -maxValue, maxValue, 5}, "b": {1}, "h": {-maxValue}, "iv": {maxValue, -maxValue, 7}, "if0": {8},
		"ddx(iv)": {maxValue, -maxValue, 9}, "ddy(iv)": {-maxValue, 10, 11}, "ddx(if0)": {maxValue}, "ddy(if0)": {-maxValue},
		// Half numbers are saturated, but only rounded by operations.
		"fixed(s.h)": {2049 * one}, "-s.h": {-2048 * one}, "s.h + half(0.0)": {2048 * one}, "s.h == half(2048.0)": {0},
	} {
		got, code := interpreter.Eval(m, api.Bindings{Uniforms: wild}, list, fields, values, parseExpr(t, text))
		if code != api.OK || !slices.Equal(got, want) {
			t.Errorf("the value of %s is %v, error %d, want %v", text, got, code, want)
		}
	}
}

// TestP21_4Missing has lists of values that are too short or too long.
func TestP21_4Missing(t *testing.T) {
	m := globals(t)
	fields, values := scope()
	whole := map[string][]int{"us": bound().Uniforms[2:7], "uv": bound().Uniforms[7:11], "iv": inputs()[1:4], "it": {6, 7, 8, 9, 1, 11, 12, 13}, "ddx(iv)": inputs()[15:18], "ddy(iv)": inputs()[29:32], "v4": values[9:13], "t": values[18:26], "first": values[30:31], "last": values[33:]}
	ends := map[string]int{"us": 7, "uv": 11, "iv": 4, "it": 13, "ddx(iv)": 18, "ddy(iv)": 32, "v4": 13, "t": 26, "first": 31, "last": 35}
	for text, all := range whole {
		for length := range 50 {
			b, in, v := bound(), inputs(), values
			cut := func(list []int) []int {
				if length > len(list) {
					return append(slices.Clone(list), make([]int, length-len(list))...)
				}
				return list[:length:length]
			}
			b.Uniforms, in, v = cut(b.Uniforms), cut(in), cut(v)
			want := slices.Clone(all)
			for i := range want {
				if ends[text]-len(want)+i >= length {
					want[i] = 0
				}
			}
			got, code := interpreter.Eval(m, b, in, fields, v, parseExpr(t, text))
			if code != api.OK || !slices.Equal(got, want) {
				t.Errorf("with %d values %s is %v, error %d, want %v", length, text, got, code, want)
			}
		}
	}
	got, code := interpreter.Eval(m, api.Bindings{}, nil, fields, nil, parseExpr(t, "S(un, v2 + vec2(1.0, uf), h, b)"))
	if code != api.OK || !slices.Equal(got, []int{0, one, 0, 0, 0}) {
		t.Errorf("without values the value is %v, error %d", got, code)
	}
}

// TestP21_4Errors has each error of types.ExprType, and modules that types.Check rejects.
func TestP21_4Errors(t *testing.T) {
	m := globals(t)
	fields, values := scope()
	unknown := api.Expr{Kind: 99}
	for _, c := range []struct {
		e    api.Expr
		want api.Errno
	}{
		{unknown, api.ErrKind}, {api.Expr{}, api.ErrKind}, {api.Expr{Kind: api.BinaryExpr, Op: api.OpAdd, Args: []api.Expr{unknown}}, api.ErrKind}, {api.Expr{Kind: api.UnaryExpr, Op: 99, Args: []api.Expr{parseExpr(t, "f")}}, api.ErrKind}, {api.Expr{Kind: api.NameExpr, Name: "f", Args: []api.Expr{unknown}}, api.ErrKind},
		{api.Expr{Kind: api.NumberExpr, Value: -1}, api.ErrRange}, {api.Expr{Kind: api.IntExpr, Value: 1 << 31}, api.ErrRange}, {api.Expr{Kind: api.BoolExpr, Value: 2}, api.ErrRange},
		{parseExpr(t, "x"), api.ErrName}, {parseExpr(t, "v2.z"), api.ErrName}, {parseExpr(t, "s.x"), api.ErrName}, {parseExpr(t, "unknown(1)"), api.ErrName}, {parseExpr(t, "load(first, 1)"), api.ErrName}, {parseExpr(t, "ddx(ih)"), api.ErrName}, {parseExpr(t, "sample(f, v2, f)"), api.ErrName},
		{parseExpr(t, "vec3(v2)"), api.ErrCount}, {parseExpr(t, "min(f)"), api.ErrCount}, {parseExpr(t, "S(1)"), api.ErrCount}, {parseExpr(t, "twice()"), api.ErrCount},
		{parseExpr(t, "f + n"), api.ErrType}, {parseExpr(t, "f.x"), api.ErrType}, {parseExpr(t, "v2[f]"), api.ErrType}, {parseExpr(t, "s == s"), api.ErrType}, {parseExpr(t, "twice(1)"), api.ErrType}, {parseExpr(t, "f * v2"), api.ErrType},
		{parseExpr(t, "x + (1 + 1.0)"), api.ErrName}, {parseExpr(t, "(1 + 1.0) + x"), api.ErrType},
	} {
		got, code := interpreter.Eval(m, bound(), inputs(), fields, values, c.e)
		if len(got) > 0 || code != c.want {
			t.Errorf("the value of %+v is %v, error %d, want %d", c.e, got, code, c.want)
		}
	}
	// A derivative in another stage.
	vertex := parse(t, "shader vertex; in i: fixed; main { }")
	if got, code := interpreter.Eval(vertex, bound(), inputs(), nil, nil, parseExpr(t, "ddx(i)")); len(got) > 0 || code != api.ErrKind {
		t.Errorf("the derivative in a vertex shader is %v, error %d", got, code)
	}
	for _, wrong := range wrongModules(t) {
		for _, e := range []api.Expr{parseExpr(t, "1.0"), unknown, parseExpr(t, "x")} {
			if got, code := interpreter.Eval(wrong, bound(), inputs(), nil, nil, e); len(got) > 0 || code != api.ErrShader {
				t.Errorf("in a module with an error the value is %v, error %d", got, code)
			}
		}
	}
}

// wrongModules returns modules that types.Check rejects, with each of its errors.
func wrongModules(t *testing.T) []api.Module {
	list := []api.Module{{}, {Stage: 4}}
	for _, text := range []string{
		"struct S { } main { }", "uniform a: int; in a: int; main { }", "uniform min: int; main { }", "in a: S; main { }", "main { x = 1; }", "out o: int; main { o = 1.0; }", "main { break; }", "main { loop 17 { } }", "main { loop 0 { } }", "main { discard; }", "main { emit; }", "main { cut; }", "in i: int; main { i = 1; }", "out o: int; main { if (o) { } }", "main { loop 1 { loop 1 { loop 1 { loop 1 { } } } } }", "fn f() -> int { return f(); } main { }", "fn f() -> int { discard; return 1; } main { }", "out o: int; fn f() -> int { return o; } main { }", "out o: int; main { 1 = 2; }",
	} {
		list = append(list, parse(t, "shader vertex; "+text))
	}
	heavy := parse(t, "shader vertex; out o: vec4; main { }")
	heavy.Main = slices.Repeat(parse(t, "shader vertex; out o: vec4; main { o = o * 2.0; }").Main, 40)
	return append(list, heavy)
}

// TestP21_4Memory checks that the arguments are not changed, and that the value shares no memory with them.
func TestP21_4Memory(t *testing.T) {
	m := globals(t)
	fields, values := scope()
	b, in := bound(), inputs()
	for _, text := range []string{"v4", "uv", "iv", "us", "it", "s", "t.c", "v2 + v2", "swap(v2)", "inner(t)", "vec4(v4)", "S(n, v2, h, b)"} {
		got, code := interpreter.Eval(m, b, in, fields, values, parseExpr(t, text))
		for i := range got {
			got[i] = -1
		}
		again, _ := interpreter.Eval(m, b, in, fields, values, parseExpr(t, text))
		if code != api.OK || slices.Contains(again, -1) {
			t.Errorf("the value of %s shares memory: %v, error %d", text, again, code)
		}
	}
	wantFields, wantValues := scope()
	if !slices.Equal(fields, wantFields) || !slices.Equal(values, wantValues) || !slices.Equal(in, inputs()) || !slices.Equal(b.Uniforms, bound().Uniforms) || !parser.Equal(m, globals(t)) {
		t.Error("Eval changed its arguments")
	}
}

// TestP21_4Compose compares the values of arbitrary expressions with the operators and functions of the values of their parts.
func TestP21_4Compose(t *testing.T) {
	m := globals(t)
	fields, values := scope()
	state := uint64(7)
	eval := func(e api.Expr) []int {
		got, code := interpreter.Eval(m, bound(), inputs(), fields, values, e)
		if code != api.OK {
			t.Fatalf("the test is wrong: the value of %+v has error %d", e, code)
		}
		return got
	}
	pool := map[api.Type][]api.Expr{}
	for of, text := range map[api.Type]string{fixedType: "f", halfType: "h", intType: "n", boolType: "b", vec2Type: "v2", vec3Type: "v3", vec4Type: "v4"} {
		pool[of] = []api.Expr{parseExpr(t, text)}
	}
	pool[fixedType] = append(pool[fixedType], parseExpr(t, "0.3"), parseExpr(t, "8000.0"))
	pool[intType] = append(pool[intType], parseExpr(t, "2147483647"), parseExpr(t, "40"))
	pick := func(of api.Type) api.Expr {
		list := pool[of]
		return list[uint(arbitrary(&state))%uint(len(list))]
	}
	for range 3000 {
		of := simpleTypes()[uint(arbitrary(&state))%7]
		x, y, z := pick(of), pick(of), pick(of)
		f := pick(fixedType)
		op := api.Operator(1 + uint(arbitrary(&state))%18)
		name := functionNames()[uint(arbitrary(&state))%9]
		sum := api.Expr{Kind: api.BinaryExpr, Op: op, Args: []api.Expr{x, y}}
		if want := interpreter.Binary(op, of, of, eval(x), eval(y)); want != nil {
			checkList(t, fmt.Sprintf("operator %d of %v", op, of), eval(sum), want)
			if op < api.OpLess {
				pool[of] = append(pool[of], sum)
			} else {
				pool[boolType] = append(pool[boolType], sum)
			}
		}
		if scaled := (api.Expr{Kind: api.BinaryExpr, Op: op, Args: []api.Expr{x, f}}); isVector(of) {
			if want := interpreter.Binary(op, of, fixedType, eval(x), eval(f)); want != nil {
				checkList(t, fmt.Sprintf("operator %d of %v and a fixed", op, of), eval(scaled), want)
			}
		}
		if want := interpreter.Unary(op, of, eval(x)); want != nil {
			negated := api.Expr{Kind: api.UnaryExpr, Op: op, Args: []api.Expr{x}}
			checkList(t, fmt.Sprintf("operator %d of %v", op, of), eval(negated), want)
			pool[of] = append(pool[of], negated)
		}
		args := []api.Expr{x, y, z}[:len(argTypes(name, of))]
		if name == "mix" && len(args) > 0 {
			args[2] = f
		}
		var lists [][]int
		for _, arg := range args {
			lists = append(lists, eval(arg))
		}
		if want := interpreter.Call(name, of, lists); want != nil {
			checkList(t, fmt.Sprintf("%s of %v", name, of), eval(api.Expr{Kind: api.CallExpr, Name: name, Args: args}), want)
		}
	}
}

// TestP21_4Large has an expression that is deeper than those of a module, a struct with many components, and one with too many.
func TestP21_4Large(t *testing.T) {
	m := globals(t)
	e := parseExpr(t, "7")
	for range 20000 {
		e = api.Expr{Kind: api.UnaryExpr, Op: api.OpNot, Args: []api.Expr{e}}
	}
	if got, code := interpreter.Eval(m, api.Bindings{}, nil, nil, nil, e); code != api.OK || !slices.Equal(got, []int{7}) {
		t.Errorf("the value of a deep expression is %v, error %d", got, code)
	}
	large := api.Module{Stage: api.VertexStage}
	fields := slices.Repeat([]api.Field{{Type: vec4Type}}, 16)
	for i := range fields {
		fields[i].Name = fmt.Sprintf("x%d", i)
	}
	for i := range 16 {
		large.Structs = append(large.Structs, api.Struct{Name: fmt.Sprintf("S%d", i), Fields: slices.Clone(fields)})
		for k := range fields {
			fields[k].Type = structType(large.Structs[i].Name)
		}
	}
	values := make([]int, 2000)
	for i := range values {
		values[i] = i
	}
	names := []api.Field{{Name: "a", Type: intType}, {Name: "s", Type: structType("S0")}, {Name: "b", Type: intType}, {Name: "u", Type: structType("S15")}}
	// The values are unspecified here, but there are some.
	deep := parseExpr(t, "u")
	for range 16 {
		deep = api.Expr{Kind: api.MemberExpr, Name: "x15", Args: []api.Expr{deep}}
	}
	for _, e := range []api.Expr{deep, parseExpr(t, "b"), parseExpr(t, "u"), parseExpr(t, "u.x15"), parseExpr(t, "u.x0.x0.x9.x15"), parseExpr(t, "S1(s, s, s, s, s, s, s, s, s, s, s, s, s, s, s, s)"), parseExpr(t, "S1(s, s, s, s, s, s, s, s, s, s, s, s, s, s, s, s).x15.x15.w")} {
		if _, code := interpreter.Eval(large, api.Bindings{}, nil, names, values, e); code != api.OK {
			t.Errorf("an expression with a large struct has error %d", code)
		}
	}
	small := large
	small.Structs = small.Structs[:1]
	for text, want := range map[string]int{"a": 0, "s.x0.x": 1, "s.x15.w": 64, "b": 65} {
		if got, code := interpreter.Eval(small, api.Bindings{}, nil, names[:3], values, parseExpr(t, text)); code != api.OK || !slices.Equal(got, []int{want}) {
			t.Errorf("%s is %v, error %d, want %d", text, got, code, want)
		}
	}
	// Many variables have their components in order, also behind the 1000th one.
	many := slices.Repeat([]api.Field{{Name: "v", Type: vec4Type}}, 400)
	many[300].Name = "w"
	if got, code := interpreter.Eval(small, api.Bindings{}, nil, many, values, parseExpr(t, "w")); code != api.OK || !slices.Equal(got, []int{1200, 1201, 1202, 1203}) {
		t.Errorf("the value of a late variable is %v, error %d", got, code)
	}
}
