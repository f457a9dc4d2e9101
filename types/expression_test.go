package types

import (
	"fmt"
	"math"
	"slices"
	"strings"
	"testing"

	"frustum/api"
)

// checkType checks the type of an expression, and that the oracle of the tests agrees.
func checkType(t *testing.T, m api.Module, scope []api.Field, e api.Expr, want api.Type) {
	t.Helper()
	if got, code := ExprType(m, scope, e); got != want || code != api.OK {
		t.Errorf("the type of %s is %s, error %d, want %s", shown(e), wordOf(got), code, wordOf(want))
	}
	if got, code := expectedType(m, scope, e); got != want || code != api.OK {
		t.Errorf("the oracle is wrong: the type of %s is %s, error %d, want %s", shown(e), wordOf(got), code, wordOf(want))
	}
}

// checkTypeError checks the error of an expression, and that the oracle of the tests agrees.
func checkTypeError(t *testing.T, m api.Module, scope []api.Field, e api.Expr, want api.Errno) {
	t.Helper()
	if got, code := ExprType(m, scope, e); got != (api.Type{}) || code != want {
		t.Errorf("the type of %s is %s, error %d, want error %d", shown(e), wordOf(got), code, want)
	}
	if _, code := expectedType(m, scope, e); code != want {
		t.Errorf("the oracle is wrong: %s has error %d, want %d", shown(e), code, want)
	}
}

// checkText checks the type of an expression with a text, which is a type word, the name of a struct, or the number of an error.
func checkText(t *testing.T, m api.Module, scope []api.Field, text, want string) {
	t.Helper()
	e := parseExpr(t, text)
	errors := map[string]api.Errno{"ErrRange": api.ErrRange, "ErrKind": api.ErrKind, "ErrCount": api.ErrCount, "ErrType": api.ErrType, "ErrName": api.ErrName}
	switch code := errors[want]; {
	case code != api.OK:
		checkTypeError(t, m, scope, e, code)
	case FindStruct(m, want) >= 0:
		checkType(t, m, scope, e, structType(want))
	default:
		checkType(t, m, scope, e, typeOfWord(want))
	}
}

// sample returns a module with something of each type, and a scope with a variable v_TYPE of each type.
func sample() (api.Module, []api.Field) {
	m := api.Module{
		Stage:     api.FragmentStage,
		Structs:   []api.Struct{{Name: "S", Fields: []api.Field{field("a", fixedType), field("b", vec2Type), field("a", boolType)}}, {Name: "Q", Fields: []api.Field{field("s", structType("S")), field("n", intType)}}, {Name: "None"}, {Name: "S", Fields: []api.Field{field("c", intType)}}, {Name: "P", Fields: []api.Field{field("x", fixedType), field("y", fixedType)}}},
		Uniforms:  []api.Field{field("u", vec3Type), field("twice", fixedType), field("twice", intType), field("all", halfType)},
		Inputs:    []api.Field{field("i", vec2Type), field("i_fixed", fixedType), field("i_half", halfType), field("i_int", intType), field("i_bool", boolType), field("i_vec3", vec3Type), field("i_vec4", vec4Type), field("i_S", structType("S")), field("twice", boolType), field("all", vec2Type), field("hidden", vec2Type), field("more", fixedType), field("more", vec2Type)},
		Outputs:   []api.Field{field("o", vec4Type), field("twice", vec4Type), field("all", vec4Type)},
		Textures:  []string{"t", "hidden"},
		Buffers:   []string{"b", "hidden"},
		Functions: []api.Function{{Name: "f", Result: vec3Type}, {Name: "g", Params: []api.Field{field("a", fixedType), field("b", structType("S"))}, Result: structType("Q")}, {Name: "f", Params: []api.Field{field("a", intType)}, Result: intType}, {Name: "min", Result: boolType}, {Name: "S", Result: boolType}, {Name: "vec2", Result: boolType}},
	}
	var scope []api.Field
	for _, t := range append(simpleTypes(), structType("S"), structType("Q"), structType("None"), structType("P")) {
		scope = append(scope, field("v_"+strings.TrimPrefix(wordOf(t), "struct "), t))
	}
	return m, append(scope, field("hidden", intType), field("v", boolType), field("v", vec4Type))
}

func TestP20_2Examples(t *testing.T) {
	checkText(t, api.Module{}, nil, "vec2(1.0, 2.0) * 3.0", "vec2")
	checkText(t, api.Module{}, nil, "1.0 + 1", "ErrType")
}

func TestP20_2Values(t *testing.T) {
	for _, value := range []int{math.MinInt, -1 << 32, -536870911, -2, -1, 0, 1, 2, 3, 65536, 536870910, 536870911, 536870912, 2147483646, 2147483647, 2147483648, 1 << 32, 1<<32 + 1, math.MaxInt} {
		for _, c := range []struct {
			e       api.Expr
			largest int
			t       api.Type
		}{{number(value), 536870911, fixedType}, {integer(value), 2147483647, intType}, {boolean(value), 1, boolType}} {
			if value >= 0 && value <= c.largest {
				checkType(t, api.Module{}, nil, c.e, c.t)
			} else {
				checkTypeError(t, api.Module{}, nil, c.e, api.ErrRange)
			}
			// Fields that the kind does not use change nothing.
			c.e.Name, c.e.Op = "x", 99
			if _, code := ExprType(api.Module{}, nil, c.e); (code == api.OK) != (value >= 0 && value <= c.largest) {
				t.Errorf("%s has error %d", shown(c.e), code)
			}
		}
	}
}

func TestP20_2Names(t *testing.T) {
	m, scope := sample()
	for text, want := range map[string]string{"u": "vec3", "i": "vec2", "o": "vec4", "twice": "fixed", "all": "half", "v": "vec4", "v_int": "int", "v_S": "S", "v_None": "None", "i_S": "S", "hidden": "int", "more": "fixed", "t": "ErrName", "b": "ErrName", "f": "ErrName", "S": "ErrName", "x": "ErrName", "min": "ErrName", "U": "ErrName", "uu": "ErrName"} {
		checkText(t, m, scope, text, want)
	}
	checkText(t, m, nil, "hidden", "vec2")
	checkText(t, m, nil, "v", "ErrName")
	checkText(t, m, []api.Field{field("u", intType)}, "u", "int")
	checkText(t, m, []api.Field{field("u", intType), field("o", intType), field("u", boolType)}, "u", "bool")
	checkText(t, m, []api.Field{field("t", intType)}, "t", "int")
	checkTypeError(t, m, scope, name(""), api.ErrName)
	checkType(t, m, []api.Field{field("", halfType)}, name(""), halfType)
	// A type need not be valid.
	checkType(t, m, []api.Field{field("a", api.Type{Kind: 99, Name: "x"})}, name("a"), api.Type{Kind: 99, Name: "x"})
	checkType(t, m, []api.Field{field("a", structType("missing"))}, name("a"), structType("missing"))
	m.Uniforms = nil
	checkText(t, m, nil, "twice", "bool")
	checkText(t, m, nil, "all", "vec2")
	m.Inputs = nil
	checkText(t, m, nil, "twice", "vec4")
}

// TestP20_2Operators gives each operator each pair of types.
func TestP20_2Operators(t *testing.T) {
	m, scope := sample()
	types := scope[:11]
	for op := api.Operator(-1); op <= 20; op++ {
		for _, a := range types {
			wordA := wordOf(a.Type)
			e := unary(op, name(a.Name))
			if op != 17 && op != 18 {
				checkTypeError(t, m, scope, e, api.ErrKind)
			} else if want, found := signatures[signs()[op]+" "+wordA]; found {
				checkType(t, m, scope, e, typeOfWord(want))
			} else {
				checkTypeError(t, m, scope, e, api.ErrType)
			}
			for _, b := range types {
				e := binary(op, name(a.Name), name(b.Name))
				if op < 1 || op > 16 {
					checkTypeError(t, m, scope, e, api.ErrKind)
				} else if want, found := signatures[signs()[op]+" "+wordA+" "+wordOf(b.Type)]; found {
					checkType(t, m, scope, e, typeOfWord(want))
				} else {
					checkTypeError(t, m, scope, e, api.ErrType)
				}
			}
		}
	}
	for _, op := range []api.Operator{math.MinInt, -1 << 32, 1<<32 + 1, 1<<32 + 17, math.MaxInt} {
		checkTypeError(t, m, scope, unary(op, integer(1)), api.ErrKind)
		checkTypeError(t, m, scope, binary(op, integer(1), integer(1)), api.ErrKind)
	}
	for text, want := range map[string]string{
		"-1": "int", "-1.5": "fixed", "!true": "bool", "!1": "int", "-true": "ErrType", "!1.5": "ErrType", "1 + 2": "int", "1.0 - 2.0": "fixed", "1.0 * 2": "ErrType", "v_vec3 * 2.0": "vec3", "2.0 * v_vec3": "ErrType", "v_vec3 / 2.0": "vec3", "v_vec3 + 2.0": "ErrType", "v_vec2 * v_vec3": "ErrType", "v_vec4 * v_half": "ErrType", "7 % 2": "int", "7.0 % 2.0": "ErrType", "1 << 2": "int", "1 & true": "ErrType", "true ^ false": "bool", "1.0 < 2.0": "bool", "1 <= 2.0": "ErrType", "true < false": "ErrType", "v_vec2 < v_vec2": "ErrType", "v_vec2 == v_vec2": "bool", "v_S == v_S": "ErrType", "v_S != v_Q": "ErrType", "v_half + v_half": "half", "v_half * v_fixed": "ErrType", "-v_vec4": "vec4", "-v_S": "ErrType",
	} {
		checkText(t, m, scope, text, want)
	}
}

// TestP20_2Equal compares types that have a kind, but not a name, in common.
func TestP20_2Equal(t *testing.T) {
	scope := []api.Field{field("a", structType("S")), field("b", structType("T")), field("c", api.Type{Kind: api.FixedType, Name: "x"}), field("d", fixedType), field("e", api.Type{Kind: 99}), field("g", api.Type{Kind: 99, Name: "x"})}
	m := api.Module{Structs: []api.Struct{{Name: "S", Fields: []api.Field{field("a", fixedType)}}, {Name: "T", Fields: []api.Field{field("a", structType("S"))}}}, Functions: []api.Function{{Name: "f", Params: []api.Field{field("a", structType("S")), field("b", fixedType)}, Result: intType}}}
	for text, want := range map[string]string{
		"c + d": "ErrType", "d + c": "ErrType", "c == d": "ErrType", "c < d": "ErrType", "min(c, d)": "ErrType", "clamp(d, d, c)": "ErrType", "a == a": "ErrType", "a == b": "ErrType", "e == g": "ErrType", "e == d": "ErrType", "e + e": "ErrType", "-e": "ErrType", "e & e": "ErrType", "e < e": "ErrType", "T(a)": "T", "T(b)": "ErrType", "S(c)": "ErrType", "S(d)": "S", "f(a, d)": "int", "f(b, d)": "ErrType", "f(a, c)": "ErrType",
	} {
		checkText(t, m, scope, text, want)
	}
	// Two equal types may be any but structs.
	if got, code := ExprType(m, scope, binary(api.OpEqual, name("e"), name("e"))); got != boolType || code != api.OK {
		t.Errorf("equal values of an unknown kind have the type %s, error %d", wordOf(got), code)
	}
}

func TestP20_2Members(t *testing.T) {
	m, scope := sample()
	members := []string{"x", "y", "z", "w", "a", "b", "c", "s", "n", "X", "xy", "xyzw", "yz", "r", "_", "v", "i"}
	wants := map[string]map[string]string{
		"v_vec2": {"x": "fixed", "y": "fixed"}, "v_vec3": {"x": "fixed", "y": "fixed", "z": "fixed"}, "v_vec4": {"x": "fixed", "y": "fixed", "z": "fixed", "w": "fixed"},
		"v_S": {"a": "fixed", "b": "vec2"}, "v_Q": {"s": "S", "n": "int"}, "v_None": {}, "v_P": {"x": "fixed", "y": "fixed"}, "v_Q.s": {"a": "fixed", "b": "vec2"}, "v_Q.s.b": {"x": "fixed", "y": "fixed"}, "vec3(v_S.b, v_S.a)": {"x": "fixed", "y": "fixed", "z": "fixed"},
	}
	for text, want := range wants {
		for _, name := range members {
			result, found := want[name]
			if !found {
				result = "ErrName"
			}
			checkText(t, m, scope, text+"."+name, result)
		}
		checkTypeError(t, m, scope, member(parseExpr(t, text), ""), api.ErrName)
		checkTypeError(t, m, scope, member(parseExpr(t, text), "x y"), api.ErrName)
	}
	for _, text := range []string{"v_fixed", "v_half", "v_int", "v_bool", "1", "true", "1.5", "v_vec2.x", "-v_int"} {
		for _, name := range members {
			checkText(t, m, scope, text+"."+name, "ErrType")
		}
	}
	scope = []api.Field{field("missing", structType("Missing")), field("kind", api.Type{Kind: 99}), field("zero", api.Type{}), field("low", api.Type{Kind: -1, Name: "S"})}
	checkText(t, m, scope, "missing.a", "ErrName")
	checkText(t, m, scope, "kind.x", "ErrType")
	checkText(t, m, scope, "zero.x", "ErrType")
	checkText(t, m, scope, "low.a", "ErrType")
	checkText(t, m, scope, "none.a", "ErrName")
	// A field has its type even if that is not valid.
	m.Structs = []api.Struct{{Name: "Missing", Fields: []api.Field{field("a", structType("Late")), field("", intType)}}}
	checkType(t, m, scope, member(name("missing"), "a"), structType("Late"))
	checkType(t, m, scope, member(name("missing"), ""), intType)
	checkTypeError(t, m, scope, member(member(name("missing"), "a"), "a"), api.ErrName)
}

func TestP20_2Indices(t *testing.T) {
	m, scope := sample()
	for _, a := range scope[:11] {
		for _, b := range scope[:11] {
			want := "ErrType"
			if strings.HasPrefix(wordOf(a.Type), "vec") && b.Type == intType {
				want = "fixed"
			}
			checkText(t, m, scope, a.Name+"["+b.Name+"]", want)
		}
	}
	for text, want := range map[string]string{"v_vec2[0]": "fixed", "v_vec2[99]": "fixed", "v_vec2[-1]": "fixed", "v_vec4[1.0]": "ErrType", "v_vec4[0][0]": "ErrType", "v_S.b[v_Q.n]": "fixed", "v_vec2[x]": "ErrName", "x[1.0]": "ErrName", "x[y.z]": "ErrName"} {
		checkText(t, m, scope, text, want)
	}
}

// tuples calls a function with all lists of a length of names of variables.
func tuples(length int, scope []api.Field, function func(args []api.Expr, words []string)) {
	if length == 0 {
		function(nil, nil)
		return
	}
	tuples(length-1, scope, func(args []api.Expr, words []string) {
		for _, f := range scope {
			function(append(slices.Clone(args), name(f.Name)), append(slices.Clone(words), wordOf(f.Type)))
		}
	})
}

// TestP20_2Builtins gives each built-in function of values each list of types, and lists that are too short and too long.
func TestP20_2Builtins(t *testing.T) {
	m, scope := sample()
	m.Functions = nil
	types := scope[:8]
	for _, function := range strings.Fields("min max clamp abs floor fract sqrt dot mix") {
		count := builtinCounts()[function]
		for length := range 5 {
			if length == 4 {
				types = scope[:3]
			} else {
				types = scope[:8]
			}
			tuples(length, types, func(args []api.Expr, words []string) {
				want, found := signatures[strings.Join(append([]string{function}, words...), " ")]
				switch e := call(function, args...); {
				case length != count:
					checkTypeError(t, m, scope, e, api.ErrCount)
				case found:
					checkType(t, m, scope, e, typeOfWord(want))
				default:
					checkTypeError(t, m, scope, e, api.ErrType)
				}
			})
		}
	}
}

// TestP20_2Resources does the same with those that take a name.
func TestP20_2Resources(t *testing.T) {
	m, scope := sample()
	types := []api.Field{scope[0], scope[2], scope[3], scope[4], scope[5], scope[7]}
	for function, resource := range map[string]string{"sample": "t", "fetch": "t", "load": "b"} {
		for length := range 5 {
			if length == 4 {
				types = types[:3]
			}
			tuples(length, types, func(args []api.Expr, words []string) {
				want, found := signatures[strings.Join(append([]string{function, "name"}, words...), " ")]
				switch e := call(function, append([]api.Expr{name(resource)}, args...)...); {
				case length+1 != builtinCounts()[function]:
					checkTypeError(t, m, scope, e, api.ErrCount)
				case found:
					checkType(t, m, scope, e, typeOfWord(want))
				default:
					checkTypeError(t, m, scope, e, api.ErrType)
				}
			})
		}
		checkTypeError(t, m, scope, call(function), api.ErrCount)
	}
	for text, want := range map[string]string{
		"sample(t, v_vec2, 1.0)": "vec4", "fetch(t, 1, 2, 3)": "vec4", "load(b, 1)": "int", "sample(hidden, v_vec2, 1.0)": "vec4", "fetch(hidden, 1, 2, 3)": "vec4", "load(hidden, 1)": "int",
		"sample(b, v_vec2, 1.0)": "ErrName", "fetch(b, 1, 2, 3)": "ErrName", "load(t, 1)": "ErrName", "sample(x, v_vec2, 1.0)": "ErrName", "load(x, 1)": "ErrName", "sample(u, v_vec2, 1.0)": "ErrName", "sample(v_vec2, v_vec2, 1.0)": "ErrName", "load(v_int, 1)": "ErrName", "load(S, 1)": "ErrName", "load(f, 1)": "ErrName",
		// Another expression is no name, and is not checked.
		"sample(1, v_vec2, 1.0)": "ErrName", "sample((t), v_vec2, 1.0)": "vec4", "load(b.x, 1)": "ErrName", "load(b[0], 1)": "ErrName", "load(-b, 1)": "ErrName", "load(f(), 1)": "ErrName", "load(1 + true, 1)": "ErrName", "load(t(), 1)": "ErrName",
		// The other arguments come first, then the name, their number and their types.
		"sample(x, y, 1.0)": "ErrName", "sample(x, 1 + true, 1.0)": "ErrType", "sample(x, v_vec2, min(1))": "ErrCount", "sample(x, vec2(1), -true)": "ErrCount", "sample(x, -true, vec2(1))": "ErrType", "load(x, -true, 1)": "ErrType", "load(x)": "ErrName", "load(x, 1, 2)": "ErrName", "load(x, 1.0)": "ErrName", "load(b)": "ErrCount", "load(b, 1.0, 2)": "ErrCount", "load(b, 1.0)": "ErrType", "fetch(x)": "ErrName", "fetch(t, true)": "ErrCount", "fetch(t, 1, 2, true)": "ErrType", "fetch(t, 1, 2, x)": "ErrName", "fetch(t, 1, 2, 3, -true)": "ErrType", "sample(t)": "ErrCount", "sample(1 + true)": "ErrName",
		"sample(t, v_vec3, 1.0)": "ErrType", "sample(t, v_vec2, 1)": "ErrType", "sample(t, 1.0, v_vec2)": "ErrType",
	} {
		checkText(t, m, scope, text, want)
	}
	checkTypeError(t, m, scope, call("load", api.Expr{Kind: api.NameExpr, Name: "b", Args: []api.Expr{integer(1)}}, integer(1)), api.ErrName)
	checkTypeError(t, m, scope, call("load", api.Expr{Kind: 99, Name: "b"}, integer(1)), api.ErrName)
	checkTypeError(t, m, scope, call("load", api.Expr{Kind: api.CallExpr, Name: "b"}, integer(1)), api.ErrName)
	checkType(t, m, scope, call("load", api.Expr{Kind: api.NameExpr, Name: "b", Value: 7, Op: 1, Args: []api.Expr{}}, integer(1)), intType)
	m.Textures, m.Buffers = nil, nil
	checkText(t, m, scope, "load(b, 1)", "ErrName")
	checkText(t, m, scope, "sample(t, v_vec2, 1.0)", "ErrName")
}

func TestP20_2Derivatives(t *testing.T) {
	m, scope := sample()
	for _, function := range []string{"ddx", "ddy"} {
		for text, want := range map[string]string{
			"(i)": "vec2", "(i_fixed)": "fixed", "(i_vec3)": "vec3", "(i_vec4)": "vec4", "(more)": "fixed", "(all)": "vec2", "(i_half)": "ErrType", "(i_int)": "ErrType", "(i_bool)": "ErrType", "(i_S)": "ErrType", "(twice)": "ErrType",
			"(hidden)": "ErrName", "(u)": "ErrName", "(o)": "ErrName", "(v)": "ErrName", "(v_fixed)": "ErrName", "(t)": "ErrName", "(x)": "ErrName", "()": "ErrCount", "(i, 1)": "ErrCount", "(i, i)": "ErrCount", "(x, 1)": "ErrName", "(x, y)": "ErrName", "(x, -true)": "ErrType", "(i_int, 1)": "ErrCount", "(i, x)": "ErrName", "(i.x)": "ErrName", "(-i)": "ErrName", "(1.0)": "ErrName", "(i[0])": "ErrName", "(i())": "ErrName",
		} {
			m.Stage = api.FragmentStage
			checkText(t, m, scope, function+text, want)
			for _, stage := range []api.Stage{api.VertexStage, api.GeometryStage, 0, 4, -1} {
				m.Stage = stage
				if !strings.HasPrefix(want, "Err") {
					checkText(t, m, scope, function+text, "ErrKind")
				} else {
					checkText(t, m, scope, function+text, want)
				}
			}
		}
		m.Stage = api.FragmentStage
		checkText(t, m, nil, function+"(hidden)", "vec2")
		checkText(t, m, []api.Field{field("i", vec2Type)}, function+"(i)", "ErrName")
	}
}

func TestP20_2Constructors(t *testing.T) {
	m, scope := sample()
	types := scope[:11]
	for _, word := range []string{"fixed", "half", "int", "bool"} {
		for length := range 4 {
			tuples(length, types[:8], func(args []api.Expr, words []string) {
				want, found := signatures[strings.Join(append([]string{word}, words...), " ")]
				switch e := call(word, args...); {
				case length != 1:
					checkTypeError(t, m, scope, e, api.ErrCount)
				case found:
					checkType(t, m, scope, e, typeOfWord(want))
				default:
					checkTypeError(t, m, scope, e, api.ErrType)
				}
			})
		}
	}
	sizes := map[string]int{"fixed": 1, "half": 1, "int": 1, "bool": 1, "vec2": 2, "vec3": 3, "vec4": 4, "struct S": 4, "struct Q": 5, "struct None": 0, "struct P": 2}
	for n, word := range []string{"vec2", "vec3", "vec4"} {
		for length := range 5 {
			if length == 4 {
				types = []api.Field{scope[0], scope[1], scope[3], scope[4], scope[9]}
			} else {
				types = scope[:11]
			}
			tuples(length, types, func(args []api.Expr, words []string) {
				sum, right := 0, true
				for _, w := range words {
					sum += sizes[w]
					right = right && (w == "fixed" || strings.HasPrefix(w, "vec"))
				}
				switch e := call(word, args...); {
				case sum != n+2:
					checkTypeError(t, m, scope, e, api.ErrCount)
				case right:
					checkType(t, m, scope, e, typeOfWord(word))
				default:
					checkTypeError(t, m, scope, e, api.ErrType)
				}
			})
		}
	}
	for text, want := range map[string]string{"vec2(1.0, 2.0)": "vec2", "vec2(v_vec2)": "vec2", "vec4(v_vec2, v_vec2)": "vec4", "vec4(v_vec3, 1.0)": "vec4", "vec4(1.0, v_vec3)": "vec4", "vec3(v_vec4)": "ErrCount", "vec2()": "ErrCount", "vec2(1, 2)": "ErrType", "vec2(1, 2, 3)": "ErrCount", "vec2(v_P)": "ErrType", "vec4(v_S)": "ErrType", "vec2(v_vec2, v_None)": "ErrType", "vec2(1.0, x)": "ErrName", "vec2(x, 1 + true)": "ErrName", "fixed(1, x)": "ErrName", "fixed()": "ErrCount", "half(1.0)": "half", "fixed(half(1.0))": "fixed"} {
		checkText(t, m, scope, text, want)
	}
}

// TestP20_2Calls calls structs and functions, also those with the name of another kind.
func TestP20_2Calls(t *testing.T) {
	m, scope := sample()
	m.Functions = append(m.Functions, api.Function{Name: "h", Params: fieldsOf(simpleTypes()...), Result: structType("Missing")}, api.Function{Name: "load", Params: fieldsOf(intType), Result: boolType})
	for text, want := range map[string]string{
		// The first struct S has three fields.
		"S(1.0, v_vec2, true)": "S", "S(1.0, v_vec2)": "ErrCount", "S()": "ErrCount", "S(1.0, v_vec2, true, 1)": "ErrCount", "S(1, v_vec2, true)": "ErrType", "S(1.0, v_vec3, true)": "ErrType", "S(1.0, v_vec2, 1)": "ErrType", "S(1)": "ErrCount", "Q(v_S, 1)": "Q", "Q(v_Q, 1)": "ErrType", "Q(S(1.0, v_vec2, true), -1)": "Q", "None()": "None", "None(1)": "ErrCount", "None(x)": "ErrName", "P(1.0, 2.0)": "P", "P(v_vec2)": "ErrCount",
		"f()": "vec3", "f(1)": "ErrCount", "g(1.0, v_S)": "Q", "g(1.0)": "ErrCount", "g(v_S, 1.0)": "ErrType", "g(1, v_S)": "ErrType", "g(1.0, v_P)": "ErrType", "g(1.0, v_S, 1)": "ErrCount", "g(x, 1)": "ErrName", "g(x)": "ErrName", "g(1.0, -true)": "ErrType", "g(min(1), x)": "ErrCount",
		// Type words, structs, built-in functions and functions are tried in this order.
		"vec2(1.0, 1.0)": "vec2", "vec2()": "ErrCount", "min(1, 2)": "int", "min()": "ErrCount", "load(1)": "ErrName", "load(b, 1)": "int",
		"k()": "ErrName", "u()": "ErrName", "t(1)": "ErrName", "v()": "ErrName", "x(1 + true)": "ErrType", "x(y)": "ErrName", "x(min())": "ErrCount", "F()": "ErrName", "_()": "ErrName",
	} {
		checkText(t, m, scope, text, want)
	}
	checkType(t, m, scope, parseExpr(t, "h(v_fixed, v_half, v_int, v_bool, v_vec2, v_vec3, v_vec4)"), structType("Missing"))
	checkTypeError(t, m, scope, call(""), api.ErrName)
	m.Structs = append(m.Structs, api.Struct{Name: "sample", Fields: fieldsOf(intType)}, api.Struct{Name: "abs", Fields: fieldsOf(boolType)}, api.Struct{Name: "vec3", Fields: fieldsOf(boolType)}, api.Struct{Name: "ddx", Fields: fieldsOf(boolType)})
	checkText(t, m, scope, "sample(1)", "sample")
	checkText(t, m, scope, "sample(t)", "ErrName")
	checkText(t, m, scope, "sample()", "ErrCount")
	checkText(t, m, scope, "sample(v_vec2)", "ErrType")
	checkText(t, m, scope, "ddx(i)", "ErrType")
	checkText(t, m, scope, "ddx(true)", "ddx")
	checkText(t, m, scope, "abs(true)", "abs")
	checkText(t, m, scope, "abs(1)", "ErrType")
	checkType(t, m, scope, parseExpr(t, "vec3(v_vec3)"), vec3Type)
	checkText(t, m, scope, "fetch(t, 1, 1, 1)", "vec4")
	m.Functions = append(m.Functions, api.Function{Name: "", Result: intType})
	checkType(t, m, scope, call(""), intType)
}

// TestP20_2Kinds checks expressions of unknown kinds, and with wrong numbers of arguments, also where the arguments have other errors.
func TestP20_2Kinds(t *testing.T) {
	m, scope := sample()
	wrong := []api.Expr{name("x"), number(-1), binary(api.OpAdd, integer(1), boolean(1)), call("min"), {Kind: 99}}
	right := map[api.ExprKind]int{1: 0, 2: 0, 3: 0, 4: 0, 5: 1, 6: 2, 8: 1, 9: 2}
	for kind := api.ExprKind(-2); kind <= 12; kind++ {
		for count := range 5 {
			if kind == api.CallExpr || count == right[kind] && kind >= 1 && kind <= 9 {
				continue
			}
			for _, arg := range append(wrong, integer(1)) {
				checkTypeError(t, m, scope, api.Expr{Kind: kind, Op: api.OpNegate, Name: "u", Value: 99, Args: slices.Repeat([]api.Expr{arg}, count)}, api.ErrKind)
			}
		}
	}
	for _, kind := range []api.ExprKind{math.MinInt, -1 << 32, 1<<32 + 1, math.MaxInt} {
		checkTypeError(t, m, scope, api.Expr{Kind: kind, Value: 1}, api.ErrKind)
	}
	checkTypeError(t, m, scope, api.Expr{}, api.ErrKind)
}

// TestP20_2Order puts all pairs of errors into the arguments of an expression, and each one beside an error of the expression itself.
func TestP20_2Order(t *testing.T) {
	m, scope := sample()
	wrong := []struct {
		e    api.Expr
		code api.Errno
	}{
		{name("x"), api.ErrName}, {number(-1), api.ErrRange}, {integer(1 << 31), api.ErrRange}, {boolean(2), api.ErrRange}, {binary(api.OpAdd, integer(1), boolean(1)), api.ErrType}, {call("min"), api.ErrCount}, {call("k"), api.ErrName}, {api.Expr{Kind: 99}, api.ErrKind}, {unary(api.OpAdd, integer(1)), api.ErrKind}, {member(name("v_vec2"), "z"), api.ErrName}, {member(integer(1), "x"), api.ErrType}, {call("load", name("b")), api.ErrCount}, {call("load", name("t"), integer(1)), api.ErrName},
	}
	good := integer(1)
	for _, a := range wrong {
		// The operators, members, names and counts of these are wrong, too.
		for _, e := range []api.Expr{
			unary(99, a.e), unary(api.OpAdd, a.e), unary(api.OpNot, a.e), binary(api.OpNot, a.e, good), binary(0, good, a.e), binary(api.OpAdd, boolean(1), a.e), member(a.e, "x"), index(a.e, boolean(1)), index(good, a.e), call("k", a.e), call("min", a.e), call("min", good, good, a.e), call("fixed", good, a.e), call("vec2", a.e), call("S", a.e), call("f", a.e), call("load", name("x"), a.e), call("load", good, a.e), call("load", name("b"), good, a.e), call("sample", name("t"), a.e), call("ddx", name("x"), a.e), call("ddx", name("i_int"), a.e), unary(api.OpNegate, unary(99, a.e)),
		} {
			checkTypeError(t, m, scope, e, a.code)
		}
		for _, b := range wrong {
			for _, e := range []api.Expr{binary(api.OpAdd, a.e, b.e), binary(99, a.e, b.e), index(a.e, b.e), call("k", a.e, b.e), call("min", a.e, b.e), call("clamp", good, a.e, b.e), call("vec2", a.e, b.e), call("S", a.e, good, b.e), call("g", a.e, b.e), call("load", name("b"), a.e, b.e), call("sample", b.e, a.e), call("fetch", b.e, a.e, b.e), call("ddy", b.e, a.e), binary(api.OpAdd, unary(api.OpNot, a.e), b.e)} {
				checkTypeError(t, m, scope, e, a.code)
			}
		}
	}
	// An unknown operator comes before wrong types.
	checkTypeError(t, m, scope, binary(99, integer(1), boolean(1)), api.ErrKind)
	checkTypeError(t, m, scope, binary(api.OpNegate, name("v_S"), boolean(1)), api.ErrKind)
	checkTypeError(t, m, scope, unary(api.OpSub, boolean(1)), api.ErrKind)
	// Of a call, a wrong count comes before wrong types.
	checkTypeError(t, m, scope, call("min", boolean(1)), api.ErrCount)
	checkTypeError(t, m, scope, call("clamp", boolean(1), integer(1)), api.ErrCount)
	checkTypeError(t, m, scope, call("g", boolean(1)), api.ErrCount)
	checkTypeError(t, m, scope, call("P", boolean(1)), api.ErrCount)
	checkTypeError(t, m, scope, call("vec3", boolean(1)), api.ErrCount)
	// And the stage comes last.
	m.Stage = api.VertexStage
	checkTypeError(t, m, scope, call("ddx", name("i_int")), api.ErrType)
	checkTypeError(t, m, scope, call("ddx", name("i"), integer(1)), api.ErrCount)
	checkTypeError(t, m, scope, call("ddx", name("hidden")), api.ErrName)
	checkTypeError(t, m, scope, call("ddx", name("i")), api.ErrKind)
}

// TestP20_2Deep checks expressions that are deeper and larger than those of a module.
func TestP20_2Deep(t *testing.T) {
	e, sum := integer(1), integer(1)
	for range 30000 {
		e, sum = unary(api.OpNegate, e), binary(api.OpAdd, sum, integer(2))
	}
	checkType(t, api.Module{}, nil, sum, intType)
	if got, code := ExprType(api.Module{}, nil, e); got != intType || code != api.OK {
		t.Errorf("a deep expression has the type %s, error %d", wordOf(got), code)
	}
	m := api.Module{Functions: []api.Function{{Name: "f", Params: slices.Repeat([]api.Field{field("a", intType)}, 5000), Result: boolType}}}
	if got, code := ExprType(m, nil, call("f", slices.Repeat([]api.Expr{integer(1)}, 5000)...)); got != boolType || code != api.OK {
		t.Errorf("a long call has the type %s, error %d", wordOf(got), code)
	}
	if _, code := ExprType(m, nil, call("vec2", slices.Repeat([]api.Expr{number(1)}, 5000)...)); code != api.ErrCount {
		t.Errorf("a long vector has error %d", code)
	}
	var scope []api.Field
	for i := range 3000 {
		scope = append(scope, field(fmt.Sprintf("v%d", i%1000), simpleTypes()[i%7]))
	}
	for i := range 1000 {
		checkType(t, m, scope, name(fmt.Sprintf("v%d", i)), simpleTypes()[(i+2000)%7])
	}
}
