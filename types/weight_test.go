package types

import (
	"fmt"
	"math"
	"slices"
	"strings"
	"testing"

	"frustum/api"
)

// checkWeight checks the weight of a module, and that the oracle of the tests agrees.
func checkWeightOf(t *testing.T, what string, m api.Module, want int) {
	t.Helper()
	if got := Weight(m); got != want {
		t.Errorf("the weight of %.300s is %d, want %d", what, got, want)
	}
	if got := expectedWeight(m); got != want {
		t.Errorf("%.300s: the oracle is wrong: the weight is %d, want %d", what, got, want)
	}
}

// weightGlobals is the text of the declarations for the statements of the tests.
func weightGlobals() string {
	return "shader fragment; struct S { v: vec3; n: int; } struct T { a: S; b: S; } struct Empty { } uniform u: int; uniform s: S; uniform r: T; uniform e: Empty; in i: vec2; in f0: fixed; out o: vec4; out n: int; texture t; buffer b; " +
		"fn one() -> int { return 1; } fn same(p: vec2) -> vec2 { return p; } fn twice(p: int) -> int { return one() + one(); } fn deep(q: S) -> S { let a: int = twice(q.n); if (a < 1) { a = one(); } return S(q.v, a); } fn none() -> Empty { return Empty(); } "
}

func TestP20_4Expressions(t *testing.T) {
	for text, want := range map[string]int{
		"1": 1, "1.5": 1, "true": 1, "u": 1, "i": 2, "o": 4, "s": 4, "r": 8, "e": 1, "-u": 2, "!true": 2, "-i": 4, "u + 1": 3, "i + i": 6, "i * 2.0": 5, "o == o": 9, "u < 1": 3, "s.v": 7, "s.n": 5, "r.a.v.x": 8 + 4 + 3 + 1, "i.x": 3, "o.w": 5,
		// An index counts 4, whatever its arguments are.
		"i[0]": 7, "o[u]": 9, "o[u + 1]": 11, "s.v[0]": 12,
		"vec2(1.0, 2.0)": 4, "vec4(o)": 8, "vec4(i, i)": 8, "fixed(u)": 2, "half(1.0)": 2, "int(1.0)": 2, "bool(u)": 2, "S(s.v, 1)": 4 + 7 + 1, "T(s, s)": 16, "Empty()": 1,
		"min(u, 1)": 3, "max(i, i)": 6, "clamp(o, o, o)": 16, "abs(i)": 4, "floor(f0)": 2, "dot(i, i)": 5, "mix(i, i, f0)": 7, "mix(f0, f0, f0)": 4,
		// The names of textures, buffers and inputs do not count.
		"sample(t, i, f0)": 4 + 2 + 1, "fetch(t, 1, 2, 3)": 4 + 3, "load(b, u)": 2, "ddx(i)": 2, "ddy(f0)": 1, "ddx(i) + ddy(i)": 6, "load(b, load(b, 1))": 3,
		// An expression with an error counts 1 and its arguments, and so does a name in a call without a type.
		"x": 1, "-true": 2, "1 + true": 3, "i + o": 1 + 2 + 4, "x.y": 2, "i.z": 3, "i[1.0]": 4, "x[0]": 3, "min(1)": 2, "min(i, o)": 7, "x(i, o)": 7, "x()": 1, "vec2(o)": 5, "vec2(1, 2)": 3, "S(1)": 2, "load(x, u)": 3, "load(b, i)": 1 + 1 + 2, "load(t, 1)": 3, "sample(t, o, 1.0)": 1 + 1 + 4 + 1, "sample(i, o, 1.0)": 1 + 2 + 4 + 1, "sample(t)": 2, "sample()": 1, "ddx(u)": 2, "ddx(o)": 5, "ddx(i, 1)": 1 + 2 + 1, "ddx()": 1, "ddx(i.x)": 1 + 3, "-(1 + true)": 4, "(1 + true) * i": 1 + 3 + 2, "load(b, x + 1)": 1 + 1 + 3,
		// A call of a function counts the components of its parameters and what it returns, too.
		"one()": 1 + 1, "same(i)": 2 + 2 + 2 + 2, "same(same(i))": 2 + 2 + 2 + (2 + 2 + 2 + 2), "twice(u)": 1 + 1 + 1 + (1 + 2 + 2), "none()": 1 + 1, "one() + one()": 5,
		"same(o)": 1 + 4, "same()": 1, "one(1)": 2, "same(u)": 2, "one(one(1))": 1 + (1 + 1), "x(one())": 1 + 2, "one(one())": 1 + 2,
		// q.n is 1 + 4, and twice of it 1 + 5 + 1 + 5; a is 1 more. The condition is 1 + (1 + 1 + 1), and the assignment 1 + 1 + (1 + 1).
		"deep(s)": 4 + 4 + 4 + (1 + (1 + 5 + 1 + 5)) + (1 + 3) + (1 + 1 + 2) + (4 + 7 + 1),
	} {
		e := parseExpr(t, text)
		m := parse(t, weightGlobals()+"main { }")
		if got := Weight(m); got != 0 {
			t.Errorf("without statements the weight is %d", got)
		}
		m.Main = []api.Stmt{{Kind: api.IfStmt, Value: e}}
		checkWeightOf(t, text, m, want+1)
		// A variable and a target count the components of the value in addition.
		of, _ := ExprType(m, nil, e)
		m.Main = []api.Stmt{{Kind: api.LetStmt, Name: "a", Type: of, Value: e}}
		checkWeightOf(t, "let of "+text, m, want+Components(m, of))
		m.Main = []api.Stmt{{Kind: api.AssignStmt, Target: name("o"), Value: e}}
		checkWeightOf(t, "assignment of "+text, m, want+Components(m, of)+4)
		m.Main = []api.Stmt{{Kind: api.AssignStmt, Target: e, Value: name("i")}}
		checkWeightOf(t, "assignment to "+text, m, want+2+2)
		// As a value that a function returns.
		m.Functions = append(m.Functions, api.Function{Name: "whole", Params: []api.Field{field("whole_s", structType("S"))}, Result: intType, Return: e})
		m.Main = []api.Stmt{{Kind: api.IfStmt, Value: call("whole", name("s"))}}
		checkWeightOf(t, "function of "+text, m, 1+1+4+4+want)
	}
}

func TestP20_4Kinds(t *testing.T) {
	m := parse(t, weightGlobals()+"main { }")
	i, one := name("i"), integer(1)
	for what, c := range map[string]struct {
		e    api.Expr
		want int
	}{
		"nothing": {api.Expr{}, 1}, "an unknown kind": {api.Expr{Kind: 99, Args: []api.Expr{i, one}}, 4}, "a kind below": {api.Expr{Kind: -1, Args: []api.Expr{i}}, 3}, "a number with arguments": {api.Expr{Kind: api.NumberExpr, Args: []api.Expr{i, i}}, 5}, "a name with an argument": {api.Expr{Kind: api.NameExpr, Name: "i", Args: []api.Expr{one}}, 2},
		"an integer out of range": {integer(-1), 1}, "a large number": {number(math.MaxInt), 1}, "no operand": {api.Expr{Kind: api.UnaryExpr, Op: api.OpNegate}, 1}, "three operands": {api.Expr{Kind: api.BinaryExpr, Op: api.OpAdd, Args: []api.Expr{i, i, i}}, 7}, "an unknown operator": {binary(99, i, i), 5}, "an index with one argument": {api.Expr{Kind: api.IndexExpr, Args: []api.Expr{i}}, 3}, "an index of an index": {index(index(i, one), one), 1 + 7 + 1}, "an index with an error": {index(i, name("x")), 1 + 2 + 1},
		"an argument of an error": {unary(api.OpNegate, api.Expr{Kind: 99, Args: []api.Expr{i}}), 1 + 3}, "a resource with arguments": {call("load", api.Expr{Kind: api.NameExpr, Name: "b", Args: []api.Expr{i}}, one), 1 + 3 + 1}, "an expression as a resource": {call("load", binary(api.OpAdd, i, i), one), 1 + 6 + 1}, "a call without a name": {call("", i), 3},
	} {
		m.Main = []api.Stmt{{Kind: api.IfStmt, Value: c.e}}
		checkWeightOf(t, what, m, c.want+1)
		m.Main = []api.Stmt{{Kind: api.IfStmt, Value: call("vec2", name("f0"), c.e)}}
		if _, code := expectedType(m, nil, c.e); code != api.OK {
			checkWeightOf(t, "a vector of "+what, m, 1+1+1+c.want)
		}
	}
}

func TestP20_4Statements(t *testing.T) {
	i, one := name("i"), integer(1)
	two := []api.Stmt{{Kind: api.IfStmt, Value: i}, {Kind: api.BreakStmt}}
	for kind := api.StmtKind(-1); kind <= 11; kind++ {
		m := parse(t, weightGlobals()+"main { }")
		m.Main = []api.Stmt{{Kind: kind, Name: "a", Type: intType, Target: name("o"), Value: i, Count: 7, Body: two, Else: append(slices.Clone(two), two...)}}
		want := 1 + 4 + 8
		switch kind {
		case api.LetStmt:
			want = 2 + 2
		case api.AssignStmt:
			want = 2 + 2 + 4
		case api.IfStmt:
			want = 1 + 2 + 4 + 8
		}
		checkWeightOf(t, fmt.Sprint("a statement of kind ", kind), m, want)
		m.Main = []api.Stmt{{Kind: kind}}
		want = 1
		switch kind {
		case api.LetStmt:
			want = 1
		case api.AssignStmt, api.IfStmt:
			want = 2
		}
		checkWeightOf(t, fmt.Sprint("an empty statement of kind ", kind), m, want)
		m.Main = []api.Stmt{{Kind: api.LoopStmt, Count: 3, Body: []api.Stmt{{Kind: kind}, {Kind: api.IfStmt, Value: one}}}}
		checkWeightOf(t, fmt.Sprint("a loop of kind ", kind), m, 1+want+2)
	}
	for text, want := range map[string]int{
		"": 0, "emit;": 1, "emit; cut; discard;": 3, "if (true) { }": 2, "if (true) { emit; } else { emit; emit; }": 5, "loop 16 { }": 1, "loop 16 { emit; }": 2, "o = vec4(i, i);": 4 + 4 + 8, "o.x = 1.0;": 1 + 5 + 1, "o[u] = f0;": 1 + 9 + 1,
		// Variables have their types in their blocks only, and may hide others.
		"let a: vec2 = i; a = a;": 4 + 6, "if (true) { let a: vec2 = i; } a = i;": 2 + 4 + 5, "if (true) { let a: vec2 = i; a = i; } else { a = i; }": 2 + 4 + 6 + 5, "loop 1 { let a: vec2 = i; } loop 1 { let a: vec4 = o; a = a; }": 1 + 4 + 1 + 8 + 12, "let i: vec4 = o; o = i;": 8 + 12, "let i: vec4 = o; o = ddx(i);": 8 + 4 + 1 + 4, "let t: vec4 = o; o = sample(t, i, f0);": 8 + 4 + 4 + 7, "let a: vec4 = i; o = a;": 4 + 12, "let a: int = x; n = a;": 1 + 3, "let a: X = i; o = a;": 4 + 4 + 1 + 0, "let u: vec2 = i; if (true) { let u: vec4 = o; o = u; } u = i;": 4 + 2 + 8 + 12 + 6,
	} {
		m := parse(t, weightGlobals()+"main { "+text+"}")
		checkWeightOf(t, text, m, want)
	}
}

// TestP20_4Functions has modules whose functions call others.
func TestP20_4Functions(t *testing.T) {
	for text, want := range map[string]int{
		"fn f() -> int { return 1; } main { n = f(); }":                                                                             1 + 1 + 2,
		"fn f() -> int { return 1; } main { n = f(); n = f(); n = f(); }":                                                           12,
		"fn f() -> int { return 1; } fn g() -> int { return f() + f(); } main { n = g() + g(); }":                                   1 + 1 + 1 + 2*(1+1+4),
		"fn f(a: int) -> int { return a; } main { n = f(f(f(f(1)))); }":                                                             1 + 1 + 4*3 + 1,
		"fn f(a: vec4, b: int) -> vec4 { let c: vec4 = a; c = c * 2.0; return c; } main { let v: vec4 = f(o, 1); }":                 4 + 4 + 4 + 1 + 5 + 8 + (4 + 4 + 9) + 4,
		"fn f() -> int { if (true) { let a: vec4 = o; } return a; } main { n = f(); }":                                              1 + 1 + 1 + 2 + 8 + 1,
		"fn f() -> int { let o: vec2 = vec2(1.0, 1.0); return o; } main { n = f(); }":                                               1 + 1 + 1 + 2 + 4 + 2,
		"fn f(o: vec2) -> vec2 { return o; } main { let a: vec2 = f(vec2(0.0, 0.0)); }":                                             2 + 2 + 4 + 2 + 2,
		"fn f(a: int) -> int { return a; } fn f(a: vec4) -> vec4 { return a; } main { n = f(1); }":                                  1 + 1 + 1 + 1 + 1 + 1,
		"fn f() -> int { return g(); } fn g() -> int { return 1; } main { n = f(); }":                                               1 + 1 + 1 + 1 + 1,
		"fn f() -> int { return 1; } fn g() -> int { return f(1); } main { n = g(2); }":                                             1 + 2,
		"fn f(p: int) -> int { return p; } main { n = f(x); n = f(1.0); n = f(); n = f(1, 2); }":                                    3 + 3 + 2 + 4,
		"fn min(p: int) -> int { return p; } fn vec2(p: int) -> int { return p; } main { n = min(1); n = vec2(1); n = min(1, 2); }": 3 + 3 + 5,
	} {
		// Some of these names are not those that the parser reads.
		text = strings.Replace(text, "fn vec2", "fn vec", 1)
		m := parse(t, "shader vertex; out n: int; out o: vec4; "+text)
		if i := FindFunction(m, "vec"); i >= 0 {
			m.Functions[i].Name = "vec2"
		}
		checkWeightOf(t, text, m, want)
	}
	// A struct with the name of a function is called instead.
	m := parse(t, "shader vertex; struct f { a: int; b: int; } fn f(a: int) -> int { return a; } main { let a: f = f(1, 2); }")
	checkWeightOf(t, "a struct", m, 2+2+2)
	// Components of parameters are limited like other ones.
	m = api.Module{Structs: []api.Struct{{Name: "S", Fields: slices.Repeat([]api.Field{field("a", vec4Type)}, 200)}}, Uniforms: []api.Field{field("s", structType("S"))}}
	m.Functions = []api.Function{{Name: "f", Params: fieldsOf(structType("S"), structType("S")), Result: intType, Return: integer(1)}}
	m.Main = []api.Stmt{{Kind: api.IfStmt, Value: call("f", name("s"), name("s"))}}
	checkWeightOf(t, "large parameters", m, 1+1+800+800+1000+1)
}

// TestP20_4Recursion has functions that call themselves or later ones, up to the depth at which calls count 1.
func TestP20_4Recursion(t *testing.T) {
	for text, want := range map[string]int{
		// With one function, a call inside of two others counts 1, and a call inside of one is followed.
		"fn f() -> int { return f(); } main { if (f()) { } }":                                                                1 + 1 + 1 + 1,
		"fn f(a: int) -> int { return f(a); } main { if (f(1)) { } }":                                                        1 + 2 + (1 + 2) + (1 + 1),
		"fn f(a: int) -> int { return f(f(a)); } main { if (f(1)) { } }":                                                     1 + 2 + (1 + 3) + 2*(1+1),
		"fn f() -> int { return g(); } fn g() -> int { return f(); } main { if (f()) { } }":                                  1 + 1 + 1 + 1 + 1,
		"fn f() -> int { return 1; } fn g() -> int { return g(); } main { if (g()) { } }":                                    1 + 1 + 1 + 1 + 1,
		"fn f() -> int { return min(f(), 1); } main { if (f()) { } }":                                                        1 + 1 + 3 + 1,
		"fn f() -> vec2 { return vec2(f()) + f(); } main { if (f()) { } }":                                                   1 + 2 + (2 + 2 + 2 + 2) + 2*(2+1+1),
		"fn f() -> vec2 { return -f(); } main { if (f()) { } }":                                                              1 + 2 + (2 + 2) + (2 + 1),
		"fn f(a: int) -> int { if (true) { let b: int = f(a); } return a; } main { if (f(1)) { } }":                          1 + 2 + (1 + 2 + 3 + 1) + (1 + 2 + 2 + 1),
		"fn f() -> vec4 { let a: vec4 = f(); a = f(); return a; } main { if (f()) { } }":                                     1 + 4 + (4 + 4 + 4 + 4 + 4 + 4) + 2*(4+1+4+4+1+4),
		"fn f(a: int) -> int { return -f(x); } main { if (f(1)) { } }":                                                       1 + 2 + (1 + 3),
		"fn f(a: int) -> int { return f(a); } main { if (f(1)) { } if (f(2)) { } }":                                          2 * 8,
		"fn f(a: int) -> int { return g(a, a); } fn g(a: int, b: int) -> int { return f(a) + f(b); } main { if (f(1)) { } }": 1 + 2 + (1 + 3) + (2 + 5) + 2*(1+1),
	} {
		checkWeightOf(t, text, parse(t, "shader vertex; "+text), want)
	}
}

// TestP20_4Limit has modules whose weight is limited, also those that call so much that it cannot be inlined.
func TestP20_4Limit(t *testing.T) {
	large := api.Module{Structs: []api.Struct{{Name: "S", Fields: slices.Repeat([]api.Field{field("a", vec4Type)}, 250)}}, Uniforms: []api.Field{field("s", structType("S"))}}
	for count, want := range map[int]int{1: 1001, 998: 998998, 999: 999999, 1000: 1000000, 1001: 1000000, 5000: 1000000} {
		large.Main = slices.Repeat([]api.Stmt{{Kind: api.IfStmt, Value: name("s")}}, count)
		checkWeightOf(t, fmt.Sprint(count, " large values"), large, want)
	}
	large.Main = slices.Repeat([]api.Stmt{{Kind: api.IfStmt, Value: name("s")}}, 999)
	for more, want := range []int{999999, 1000000, 1000000, 1000000} {
		m := large
		m.Main = append(slices.Clone(large.Main), slices.Repeat([]api.Stmt{{}}, more)...)
		checkWeightOf(t, fmt.Sprint(more, " more statements"), m, want)
	}
	// Each function calls the one before it twice: its weight is 4*2^k - 3.
	doubling := api.Module{Functions: []api.Function{{Name: "f0", Result: intType, Return: integer(1)}}}
	for k := range 2000 {
		last := call(fmt.Sprintf("f%d", k))
		doubling.Main = []api.Stmt{{Kind: api.IfStmt, Value: last}}
		want := 1000000
		if k < 18 {
			want = min(2+4<<k-3, 1000000)
		}
		if k < 40 || k%100 == 0 {
			if got := Weight(doubling); got != want {
				t.Errorf("the weight of %d functions is %d, want %d", k, got, want)
			}
		}
		doubling.Functions = append(doubling.Functions, api.Function{Name: fmt.Sprintf("f%d", k+1), Result: intType, Return: binary(api.OpAdd, last, last)})
	}
	// All functions call all functions.
	for count := 1; count <= 60; count++ {
		var all api.Module
		sum := integer(1)
		for k := range count {
			sum = binary(api.OpAdd, sum, call(fmt.Sprintf("f%d", k)))
		}
		for k := range count {
			all.Functions = append(all.Functions, api.Function{Name: fmt.Sprintf("f%d", k), Result: intType, Return: sum})
		}
		all.Main = []api.Stmt{{Kind: api.IfStmt, Value: sum}}
		// Each sum has a number, and an operator and a call for each function; the calls of the last sums are not followed.
		want, sums := 1, 1
		for range count + 2 {
			want, sums = min(want+sums*(1+2*count), 1000000), min(sums*count, 1000000)
		}
		if got := Weight(all); got != want {
			t.Errorf("the weight of %d functions that call all is %d, want %d", count, got, want)
		}
	}
	// A long chain of functions, which ends in a call of the first one.
	var chain api.Module
	for k := range 3000 {
		chain.Functions = append(chain.Functions, api.Function{Name: fmt.Sprintf("f%d", k), Result: intType, Return: call(fmt.Sprintf("f%d", (k+1)%3000))})
	}
	chain.Main = []api.Stmt{{Kind: api.IfStmt, Value: call("f0")}}
	if got := Weight(chain); got != 1+1+3001 {
		t.Errorf("the weight of a chain is %d, want %d", got, 3003)
	}
}

// TestP20_4Deep has an expression and blocks that are deeper than those of a module that passes.
func TestP20_4Deep(t *testing.T) {
	e := integer(1)
	s := api.Stmt{Kind: api.EmitStmt}
	for range 20000 {
		e = unary(api.OpNegate, e)
		s = api.Stmt{Kind: api.LoopStmt, Body: []api.Stmt{s}}
	}
	if got := Weight(api.Module{Main: []api.Stmt{{Kind: api.LetStmt, Name: "a", Type: intType, Value: e}, s}}); got != 1+20001+20001 {
		t.Errorf("the weight is %d", got)
	}
	if got := Check(api.Module{Stage: 1, Main: []api.Stmt{{Kind: api.LetStmt, Name: "a", Type: intType, Value: e}, s}}); got != api.ErrTooLong {
		t.Errorf("the error is %d", got)
	}
}
