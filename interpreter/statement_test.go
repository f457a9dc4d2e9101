package interpreter_test

import (
	"math"
	"slices"
	"strings"
	"testing"

	"frustum/api"
	"frustum/interpreter"
	"frustum/parser"
)

func checkRun(t *testing.T, text string, b api.Bindings, inputs []int, want api.LaneResult) {
	t.Helper()
	got, code := interpreter.Run(parse(t, text), b, inputs)
	if code != api.OK || !equal(got, want) {
		t.Errorf("the result of %s is %v, error %d, want %v", text, got, code, want)
	}
}

func equal(a, b api.LaneResult) bool {
	return slices.Equal(a.Outputs, b.Outputs) && a.Discarded == b.Discarded && slices.EqualFunc(a.Emitted, b.Emitted, slices.Equal) && slices.Equal(a.Cuts, b.Cuts)
}

func outputs(values ...int) api.LaneResult {
	return api.LaneResult{Outputs: values}
}

func TestP21_5Example(t *testing.T) {
	checkRun(t, "shader vertex; out o: vec2; main { o = vec2(1.0, 2.0) * 0.5; }", api.Bindings{}, nil, outputs(32768, 65536))
}

// ints runs statements with the outputs n, m and k.
func checkInts(t *testing.T, statements string, n, m, k int) {
	t.Helper()
	checkRun(t, "shader fragment; uniform u: int; in i: int; out n: int; out m: int; out k: int; main { "+statements+" }", api.Bindings{Uniforms: []int{5}}, []int{6}, outputs(n, m, k))
}

func TestP21_5LetAndAssign(t *testing.T) {
	checkInts(t, "", 0, 0, 0)
	checkInts(t, "n = 1; m = n + 1; k = m + n;", 1, 2, 3)
	checkInts(t, "n = u; m = i; k = n * m;", 5, 6, 30)
	checkInts(t, "n = n + 1; n = n + 1; m = n; n = 0;", 0, 2, 0)
	checkInts(t, "let a: int = 3; let b: int = a; a = 4; n = a; m = b; b = 5; k = a;", 4, 3, 4)
	checkInts(t, "let a: int = n; n = 7; m = a; a = 8; k = n;", 7, 0, 7)
	checkInts(t, "if (true) { let a: int = 1; n = a; } if (true) { let a: int = 2; m = a; } let a: int = 3; k = a;", 1, 2, 3)
	checkInts(t, "let a: int = 1; if (true) { a = 2; let b: int = a + 5; a = b; } n = a;", 7, 0, 0)
}

// checkParts runs statements with a struct, a vector and an int as outputs: s.a, s.v, s.b, v, n.
func checkParts(t *testing.T, statements string, want ...int) {
	t.Helper()
	text := "shader vertex; struct S { a: int; v: vec2; b: bool; } struct T { c: fixed; s: S; } uniform u: vec2; in i: int; out s: S; out v: vec3; out n: int; main { " + statements + " }"
	checkRun(t, text, api.Bindings{Uniforms: []int{11, 12}}, []int{-7}, outputs(want...))
}

func TestP21_5Targets(t *testing.T) {
	checkParts(t, "s = S(1, u, true); v = vec3(u, 1.0); n = 3;", 1, 11, 12, 1, 11, 12, one, 3)
	checkParts(t, "s.a = 1; s.v = u; s.b = true;", 1, 11, 12, 1, 0, 0, 0, 0)
	checkParts(t, "s.v.x = u.y; s.v.y = u.x; v.z = u.x; v.x = u.y;", 0, 12, 11, 0, 12, 0, 11, 0)
	checkParts(t, "s.v[0] = u.y; s.v[1] = u.x; v[2] = u.x; v[0] = u[1];", 0, 12, 11, 0, 12, 0, 11, 0)
	// Indices that are out of range.
	checkParts(t, "v = vec3(u, 1.0); v[3] = 5.0; v[-1] = 5.0; v[i] = 5.0; v[2147483647] = 5.0; v[-2147483647 - 1] = 5.0; s.v[2] = 5.0; s.v[-1] = 5.0;", 0, 0, 0, 0, 11, 12, one, 0)
	checkParts(t, "let t: T = T(0.5, S(1, u, true)); t.s.v[1] = t.c; t.s.a = 9; s = t.s; t.s.a = 10; n = t.s.a;", 9, 11, one/2, 1, 0, 0, 0, 10)
	checkParts(t, "let t: T = T(0.5, S(1, u, true)); t.s = S(2, vec2(t.c, 1.0), false); s = t.s; v.x = t.c;", 2, one/2, one, 0, one/2, 0, 0, 0)
	// The value and the indices are evaluated before the variable is changed.
	checkParts(t, "v = vec3(1.0, 2.0, 3.0); v[int(v.x)] = v.y + v.x; v[int(v[0])] = v[1] * 2.0;", 0, 0, 0, 0, one, 6*one, 3*one, 0)
	checkParts(t, "v = vec3(1.0, 2.0, 0.0); v[int(v[int(v[2])])] = 5.0;", 0, 0, 0, 0, one, 5*one, 0, 0)
	checkParts(t, "v = vec3(1.0, 2.0, 3.0); v = vec3(v.z, v.x, v.y);", 0, 0, 0, 0, 3*one, one, 2*one, 0)
	checkParts(t, "s.v = vec2(1.0, 2.0); s = S(5, vec2(s.v.y, s.v.x), s.a == 0);", 5, 2*one, one, 1, 0, 0, 0, 0)
	checkParts(t, "v = vec3(1.0, 0.0, 0.0); v[int(v.x)] = v[int(v.x)] + v.x; v.x = v.y;", 0, 0, 0, 0, one, one, 0, 0)
	checkParts(t, "n = 1; v[n] = 2.0; n = 2; v[n] = fixed(n) + 1.0;", 0, 0, 0, 0, 0, 2*one, 3*one, 2)
	// A copy does not change with the variable it is from.
	checkParts(t, "v = vec3(1.0, 2.0, 3.0); let w: vec3 = v; w[1] = 9.0; v.x = w.y; let x: vec3 = w; w.x = 0.5; v.z = x.x;", 0, 0, 0, 0, 9*one, 2*one, one, 0)
}

func TestP21_5If(t *testing.T) {
	checkInts(t, "if (true) { n = 1; } if (false) { m = 1; } k = 1;", 1, 0, 1)
	checkInts(t, "if (u > i) { n = 1; } else { n = 2; } if (u < i) { m = 1; } else { m = 2; }", 2, 1, 0)
	checkInts(t, "if (u == 5) { if (i == 5) { n = 1; } else { n = 2; } } else { n = 3; }", 2, 0, 0)
	checkInts(t, "if (u == 6) { n = 1; } else { if (i == 6) { n = 2; m = 3; } } k = 4;", 2, 3, 4)
	checkInts(t, "if (true) { } else { n = 1; } if (false) { } else { }", 0, 0, 0)
	checkInts(t, "n = 1; if (n == 1) { n = 2; if (n == 1) { n = 3; } } else { n = 4; }", 2, 0, 0)
}

func TestP21_5Loops(t *testing.T) {
	checkInts(t, "loop 1 { n = n + 1; } loop 16 { m = m + 1; } loop 7 { } ", 1, 16, 0)
	checkInts(t, "loop 3 { loop 4 { loop 5 { n = n + 1; } m = m + 1; } k = k + 1; }", 60, 12, 3)
	checkInts(t, "loop 10 { n = n + 1; if (n == 4) { break; } m = m + 1; } k = n;", 4, 3, 4)
	checkInts(t, "loop 10 { n = n + 1; if (n % 3 == 0) { continue; } m = m + 1; }", 10, 7, 0)
	checkInts(t, "loop 10 { break; n = 1; } loop 10 { m = m + 1; continue; m = 100; }", 0, 10, 0)
	checkInts(t, "loop 5 { n = n + 1; loop 5 { m = m + 1; if (m % 3 == 0) { break; } } k = k + m; }", 5, 15, 3+6+9+12+15)
	checkInts(t, "loop 5 { n = n + 1; loop 4 { m = m + 1; if (m % 2 == 0) { continue; } k = k + 1; } }", 5, 20, 10)
	checkInts(t, "loop 5 { loop 4 { m = m + 1; } n = n + 1; if (n == 2) { continue; } if (n == 4) { break; } k = k + m; }", 4, 16, 4+12)
	checkInts(t, "loop 4 { loop 4 { loop 4 { n = n + 1; if (n == 6) { break; } if (n > 6) { continue; } m = m + 1; } if (n > 9) { break; } k = k + 1; } }", 22, 5, 2)
	// Variables of an iteration are new in the next one, also if it was left from within.
	checkInts(t, "loop 5 { let a: int = n; if (a > 1) { let b: int = a * 10; m = b; if (b > 20) { let c: int = b; k = k + c; continue; } } n = a + 1; } let c: int = 1; n = n + c;", 4, 30, 60)
	checkInts(t, "loop 3 { let a: int = 5; loop 3 { let b: int = a; a = a + 1; if (b == 6) { let c: int = b; break; } } n = n + a; } let b: int = 2; m = b;", 21, 2, 0)
	checkInts(t, "loop 2 { if (true) { if (true) { if (n == 0) { n = 5; continue; } else { m = 6; break; } } k = 100; } k = 200; }", 5, 6, 0)
}

func TestP21_5Discard(t *testing.T) {
	check := func(statements string, want ...int) {
		t.Helper()
		checkRun(t, "shader fragment; in i: int; out n: int; out m: int; main { "+statements+" }", api.Bindings{}, []int{3}, api.LaneResult{Outputs: want, Discarded: true})
	}
	check("discard;", 0, 0)
	check("n = 1; discard; m = 1;", 1, 0)
	check("n = 1; if (i == 3) { m = 2; discard; } n = 5;", 1, 2)
	check("if (i == 4) { } else { discard; } n = 5;", 0, 0)
	check("loop 5 { n = n + 1; if (n == 3) { discard; } } m = 1;", 3, 0)
	check("loop 5 { loop 5 { loop 5 { n = n + 1; if (n == 33) { discard; } } m = m + 1; } m = m + 10; } m = 1000;", 33, 16)
	check("loop 5 { loop 2 { n = n + 1; if (n == 1) { continue; } if (n == 3) { break; } if (n == 5) { m = n; discard; } } }", 5, 5)
	checkRun(t, "shader fragment; out n: int; main { if (n == 1) { discard; } n = 1; loop 2 { break; discard; } }", api.Bindings{}, nil, outputs(1))
	checkRun(t, "shader fragment; main { discard; }", api.Bindings{}, nil, api.LaneResult{Discarded: true})
}

func TestP21_5Emit(t *testing.T) {
	check := func(statements string, cuts []int, want ...int) {
		t.Helper()
		result := api.LaneResult{Outputs: []int{want[len(want)-1]}, Cuts: cuts}
		for _, n := range want[:len(want)-1] {
			result.Emitted = append(result.Emitted, []int{n})
		}
		checkRun(t, "shader geometry; out n: int; main { "+statements+" }", api.Bindings{}, nil, result)
	}
	check("", nil, 0)
	check("emit;", nil, 0, 0)
	check("n = 1; emit; n = 2; emit; n = 3;", nil, 1, 2, 3)
	check("emit; emit; n = 1;", nil, 0, 0, 1)
	check("loop 12 { n = n + 1; emit; }", nil, 1, 2, 3, 4, 5, 6, 7, 8, 9, 10, 11, 12, 12)
	check("loop 13 { n = n + 1; emit; }", nil, 1, 2, 3, 4, 5, 6, 7, 8, 9, 10, 11, 12, 13)
	check("loop 11 { emit; } n = 1; emit; n = 2; emit; cut; n = 3; emit; cut;", []int{12}, 0, 0, 0, 0, 0, 0, 0, 0, 0, 0, 0, 1, 3)
	check("cut; cut; emit; cut; cut; n = 1; emit; emit; cut; n = 2; cut;", []int{1, 3}, 0, 1, 1, 2)
	check("cut;", nil, 0)
	check("emit; cut;", []int{1}, 0, 0)
	check("cut; emit;", nil, 0, 0)
	check("loop 16 { loop 16 { emit; cut; } }", []int{1, 2, 3, 4, 5, 6, 7, 8, 9, 10, 11, 12}, make([]int, 13)...)
	check("loop 4 { n = n + 1; if (n == 2) { continue; } emit; if (n == 3) { cut; break; } }", []int{2}, 1, 3, 3)
	checkRun(t, "shader geometry; main { emit; cut; emit; }", api.Bindings{}, nil, api.LaneResult{Emitted: [][]int{nil, nil}, Cuts: []int{1}})
	checkRun(t, "shader geometry; in i: vec2; out v: vec2; out n: int; main { v = i; emit; n = 4; v.x = 1.0; emit; }", api.Bindings{}, []int{8, 9}, api.LaneResult{Outputs: []int{one, 9, 4}, Emitted: [][]int{{8, 9, 0}, {one, 9, 4}}})
}

// TestP21_5Functions has functions with variables that have the names of outputs and of other functions.
func TestP21_5Functions(t *testing.T) {
	const functions = `fn sum(a: vec2, b: int) -> vec2 { let n: vec2 = a; n[b] = n[b] + 1.0; n.x = n.x + n.y; return n * 2.0; }
		fn n(a: int) -> int { let o: int = a; if (a > 2) { let v: int = o * 2; o = v; } else { o = -o; } return o; }
		fn both(a: int) -> int { return n(a) + n(n(a)); } `
	check := func(statements string, want ...int) {
		t.Helper()
		checkRun(t, "shader vertex; uniform u: int; in i: vec2; out o: int; out v: vec2; "+functions+"main { "+statements+" }", api.Bindings{Uniforms: []int{3}}, []int{one, 2 * one}, outputs(want...))
	}
	check("o = n(u);", 6, 0, 0)
	check("o = n(1) + n(n(u)) * 100;", 1199, 0, 0)
	check("o = both(2) + both(3) * 100;", -2+2+1800, 0, 0)
	check("v = sum(i, 1);", 0, 8*one, 6*one)
	check("v = sum(sum(i, 0), 7);", 0, 24*one, 8*one)
	check("v = i; v = sum(v, 0) + v;", 0, 9*one, 6*one)
	check("let m: int = 5; o = n(m) + m; m = n(m); v.x = fixed(m);", 15, 10*one, 0)
	check("loop 3 { o = o + n(o + 3); if (n(o) > 50) { break; } }", 78, 0, 0)
}

func TestP21_5Inputs(t *testing.T) {
	text := "shader fragment; struct S { b: bool; n: int; } uniform u: fixed; uniform s: S; in h: half; in v: vec2; out f: fixed; out n: int; out b: bool; out h2: half; out w: vec2; out d: vec2; main { f = u; n = s.n; b = s.b; h2 = h; w = v; d = ddx(v) + ddy(v) * 2.0; }"
	b := api.Bindings{Uniforms: []int{math.MaxInt, -3, 1<<32 + 9}}
	checkRun(t, text, b, []int{math.MinInt, 1, 2, 0, 10, 20, 0, 100, 200}, outputs(maxValue, 9, 1, -maxValue, 1, 2, 210, 420))
	checkRun(t, text, b, []int{5, 1, 2, 0, 10}, outputs(maxValue, 9, 1, 5, 1, 2, 10, 0))
	checkRun(t, text, api.Bindings{}, nil, outputs(make([]int, 8)...))
	checkRun(t, "shader vertex; texture t; buffer b; out v: vec4; out n: int; main { v = fetch(t, 1, 1, 0); n = load(b, 1); v.w = sample(t, vec2(0.1, 0.1), 0.0).w; }", api.Bindings{}, nil, outputs(0, 0, 0, 0, 0))
}

func TestP21_5Rejected(t *testing.T) {
	for _, m := range wrongModules(t) {
		if got, code := interpreter.Run(m, bound(), inputs()); code != api.ErrShader || !equal(got, api.LaneResult{}) {
			t.Errorf("the result of a module with an error is %v, error %d", got, code)
		}
	}
}

// TestP21_5Memory changes results, which share no memory with arguments and one another.
func TestP21_5Memory(t *testing.T) {
	text := "shader geometry; uniform u: vec4; in i: vec2; out v: vec4; out w: vec2; fn same(p: vec4) -> vec4 { return p; } main { v = same(u); w = i; emit; emit; cut; emit; cut; let x: vec4 = v; x.x = 1.0; w.y = x.x; }"
	m, b, in := parse(t, text), api.Bindings{Uniforms: []int{1, 2, 3, 4}}, []int{5, 6}
	want := api.LaneResult{Outputs: []int{1, 2, 3, 4, 5, one}, Emitted: [][]int{{1, 2, 3, 4, 5, 6}, {1, 2, 3, 4, 5, 6}, {1, 2, 3, 4, 5, 6}}, Cuts: []int{2, 3}}
	for range 2 {
		got, code := interpreter.Run(m, b, in)
		if code != api.OK || !equal(got, want) {
			t.Fatalf("the result is %v, error %d, want %v", got, code, want)
		}
		lists := append(slices.Clone(got.Emitted), got.Outputs, got.Cuts)
		for i, list := range lists {
			whole := list[:cap(list)]
			for k := range whole {
				whole[k] = -1 - i
			}
		}
		for i, list := range lists {
			if slices.ContainsFunc(list, func(n int) bool { return n != -1-i }) {
				t.Errorf("list %d of the result shares memory with another one: %v", i, list)
			}
		}
	}
	if !parser.Equal(m, parse(t, text)) || !slices.Equal(b.Uniforms, []int{1, 2, 3, 4}) || !slices.Equal(in, []int{5, 6}) {
		t.Error("Run changed its arguments")
	}
}

// TestP21_6Longest runs loops with as many iterations as there can be.
func TestP21_6Longest(t *testing.T) {
	body := strings.Repeat("n = n + 1; ", 60)
	checkRun(t, "shader vertex; out n: int; main { loop 16 { loop 16 { loop 16 { "+body+"} } } }", api.Bindings{}, nil, outputs(16*16*16*60))
	checkRun(t, "shader fragment; out n: int; main { loop 16 { loop 16 { loop 16 { n = n + 1; continue; } } } discard; }", api.Bindings{}, nil, api.LaneResult{Outputs: []int{4096}, Discarded: true})
}
