package interpreter_test

import (
	"fmt"
	"math"
	"math/big"
	"slices"
	"testing"

	"frustum/api"
	"frustum/fixed"
	"frustum/interpreter"
	"frustum/minifloat"
)

const (
	one      = api.One
	maxValue = api.MaxValue
)

// The types of the shading language.
var (
	fixedType = api.Type{Kind: api.FixedType}
	halfType  = api.Type{Kind: api.HalfType}
	intType   = api.Type{Kind: api.IntType}
	boolType  = api.Type{Kind: api.BoolType}
	vec2Type  = api.Type{Kind: api.Vec2Type}
	vec3Type  = api.Type{Kind: api.Vec3Type}
	vec4Type  = api.Type{Kind: api.Vec4Type}
)

func structType(name string) api.Type {
	return api.Type{Kind: api.StructType, Name: name}
}

// simpleTypes are all types but structs.
func simpleTypes() []api.Type {
	return []api.Type{fixedType, halfType, intType, boolType, vec2Type, vec3Type, vec4Type}
}

// wrongTypes are types that no value has, also in a module without structs.
func wrongTypes() []api.Type {
	return []api.Type{structType("S"), structType(""), {Kind: api.FixedType, Name: "x"}, {Kind: api.IntType, Name: "int"}, {Kind: api.BoolType, Name: "x"}, {Kind: api.Vec2Type, Name: "x"}, {Kind: 0, Name: "x"}, {Kind: 9, Name: "x"}}
}

// size returns the number of components of a type.
func size(t api.Type) int {
	if t.Kind < 1 || t.Kind > 7 {
		return 0
	}
	return []int{0, 1, 1, 1, 1, 2, 3, 4}[t.Kind]
}

// telling are ints at which operations change: small ones, and those at and beyond the bounds of all kinds.
func telling() []int {
	var all []int
	for _, n := range []int{0, 1, 2, 3, 7, 15, 16, 31, 32, 33, 63, 64, 100, 1000, one / 2, one - 1, one, one + 1, 3 * one / 2, 2049 * one, 2051*one + 1, maxValue / one * one, maxValue - 1, maxValue, maxValue + 1, 1<<31 - 1, 1 << 31, 1<<31 + 1, 1<<32 - 1, 1 << 32, 1<<32 + 5, 1<<40 + 3, 1 << 62, math.MaxInt - 1, math.MaxInt} {
		all = append(all, n, -n)
	}
	return append(all, math.MinInt)
}

// arbitrary returns the next number of a list without an end.
func arbitrary(state *uint64) int {
	*state = *state*6364136223846793005 + 1442695040888963407
	n := int(*state ^ *state>>29)
	return n >> (*state >> 58)
}

// values returns a number of telling and of arbitrary ints.
func values(state *uint64, count int) []int {
	list := make([]int, count)
	for i := range list {
		list[i] = arbitrary(state)
		if all := telling(); list[i]%2 == 0 {
			list[i] = all[uint(list[i])%uint(len(all))]
		}
	}
	return list
}

// wrapped returns an integer of any size modulo 2^32, as an int with 32 bits.
func wrapped(n *big.Int) int {
	rest := new(big.Int).Mod(n, big.NewInt(1<<32)).Int64()
	if rest >= 1<<31 {
		rest -= 1 << 32
	}
	return int(rest)
}

// ready returns an operand of a type as P21.1 prepares it.
func ready(t api.Type, x int) int {
	switch t.Kind {
	case api.IntType:
		return wrapped(big.NewInt(int64(x)))
	case api.BoolType:
		if x != 0 {
			return 1
		}
		return 0
	}
	return max(-maxValue, min(x, maxValue))
}

// half returns the number that the format for half numbers has for x.
func half(x int) int {
	return minifloat.Quantize(api.FloatFormat{Exponent: 5, Mantissa: 10, Signed: true}, x)
}

func truth(x bool) int {
	if x {
		return 1
	}
	return 0
}

func isVector(t api.Type) bool {
	return slices.Contains([]api.Type{vec2Type, vec3Type, vec4Type}, t)
}

// allows tells, rule by rule, which operands a binary operator has.
func allows(op api.Operator, t, u api.Type) bool {
	number := slices.Contains([]api.Type{fixedType, halfType, intType, vec2Type, vec3Type, vec4Type}, t)
	switch op {
	case api.OpAdd, api.OpSub:
		return t == u && number
	case api.OpMul, api.OpDiv:
		return t == u && number || isVector(t) && u == fixedType
	case api.OpMod, api.OpShiftLeft, api.OpShiftRight:
		return t == intType && u == intType
	case api.OpAnd, api.OpOr, api.OpXor:
		return t == u && (t == intType || t == boolType)
	case api.OpLess, api.OpLessEqual, api.OpGreater, api.OpGreaterEqual:
		return t == u && (t == fixedType || t == halfType || t == intType)
	case api.OpEqual, api.OpNotEqual:
		return t == u && slices.Contains(simpleTypes(), t)
	}
	return false
}

// intResult computes an operator of ints in integers of any size.
func intResult(op api.Operator, x, y int) int {
	a, b, r := big.NewInt(int64(x)), big.NewInt(int64(y)), new(big.Int)
	shift := uint(((y % 32) + 32) % 32)
	switch op {
	case api.OpAdd:
		r.Add(a, b)
	case api.OpSub:
		r.Sub(a, b)
	case api.OpMul:
		r.Mul(a, b)
	case api.OpDiv:
		if y != 0 {
			r.Quo(a, b)
		}
	case api.OpMod:
		if y != 0 {
			r.Sub(a, new(big.Int).Mul(b, new(big.Int).Quo(a, b)))
		}
	case api.OpAnd:
		r.And(a, b)
	case api.OpOr:
		r.Or(a, b)
	case api.OpXor:
		r.Xor(a, b)
	case api.OpShiftLeft:
		r.Lsh(a, shift)
	case api.OpShiftRight:
		// Rounded down, as an arithmetic shift does.
		r.Div(a, new(big.Int).Lsh(big.NewInt(1), shift))
	}
	return wrapped(r)
}

func fixedResult(op api.Operator, x, y int) int {
	return map[api.Operator]func(int, int) int{api.OpAdd: fixed.Add, api.OpSub: fixed.Sub, api.OpMul: fixed.Mul, api.OpDiv: fixed.Div}[op](x, y)
}

func comparison(op api.Operator, x, y int) bool {
	return map[api.Operator]bool{api.OpLess: x < y, api.OpLessEqual: x <= y, api.OpGreater: x > y, api.OpGreaterEqual: x >= y}[op]
}

// expectedBinary is a second reading of P21.1 for operands with the right numbers of components.
func expectedBinary(op api.Operator, t, u api.Type, x, y []int) []int {
	if !allows(op, t, u) {
		return nil
	}
	var result []int
	equal := true
	for i := range x {
		a, b := ready(t, x[i]), 0
		if len(y) == 1 {
			b = ready(u, y[0])
		} else {
			b = ready(u, y[i])
		}
		equal = equal && a == b
		switch {
		case op >= api.OpLess && op <= api.OpGreaterEqual:
			result = append(result, truth(comparison(op, a, b)))
		case op == api.OpEqual || op == api.OpNotEqual:
		case t == intType || t == boolType:
			result = append(result, intResult(op, a, b))
		case t == halfType:
			result = append(result, half(fixedResult(op, a, b)))
		default:
			result = append(result, fixedResult(op, a, b))
		}
	}
	switch op {
	case api.OpEqual:
		return []int{truth(equal)}
	case api.OpNotEqual:
		return []int{truth(!equal)}
	}
	return result
}

// expectedUnary is a second reading of P21.1.
func expectedUnary(op api.Operator, t api.Type, x []int) []int {
	var result []int
	for _, n := range x {
		n = ready(t, n)
		switch {
		case op == api.OpNegate && t == intType:
			result = append(result, wrapped(new(big.Int).Neg(big.NewInt(int64(n)))))
		case op == api.OpNegate && t == halfType:
			result = append(result, half(fixed.Sub(0, n)))
		case op == api.OpNegate && (t == fixedType || isVector(t)):
			result = append(result, fixed.Sub(0, n))
		case op == api.OpNot && t == intType:
			result = append(result, wrapped(new(big.Int).Not(big.NewInt(int64(n)))))
		case op == api.OpNot && t == boolType:
			result = append(result, 1-n)
		}
	}
	return result
}

func checkList(t *testing.T, what string, got, want []int) {
	t.Helper()
	if !slices.Equal(got, want) {
		t.Errorf("%s is %v, want %v", what, got, want)
	}
}

func checkBinary(t *testing.T, op api.Operator, of, u api.Type, x, y, want []int) {
	t.Helper()
	xs, ys := slices.Clone(x), slices.Clone(y)
	got := interpreter.Binary(op, of, u, x, y)
	checkList(t, fmt.Sprintf("operator %d of %v %v and %v %v", op, of, x, u, y), got, want)
	if !slices.Equal(x, xs) || !slices.Equal(y, ys) {
		t.Errorf("operator %d changed its operands", op)
	}
	for i := range got {
		got[i]++
	}
	if !slices.Equal(x, xs) || !slices.Equal(y, ys) {
		t.Errorf("the value of operator %d of %v shares memory with its operands", op, of)
	}
}

func checkUnary(t *testing.T, op api.Operator, of api.Type, x, want []int) {
	t.Helper()
	xs := slices.Clone(x)
	got := interpreter.Unary(op, of, x)
	checkList(t, fmt.Sprintf("operator %d of %v %v", op, of, x), got, want)
	for i := range got {
		got[i]++
	}
	if !slices.Equal(x, xs) {
		t.Errorf("operator %d changed its operand, or its value shares memory with it", op)
	}
}

func TestP21_1UnaryTable(t *testing.T) {
	for _, c := range []struct {
		op      api.Operator
		of      api.Type
		x, want []int
	}{
		{api.OpNegate, fixedType, []int{3}, []int{-3}}, {api.OpNegate, fixedType, []int{maxValue + 1}, []int{-maxValue}}, {api.OpNegate, fixedType, []int{math.MinInt}, []int{maxValue}},
		{api.OpNegate, halfType, []int{one}, []int{-one}}, {api.OpNegate, halfType, []int{2049 * one}, []int{-2048 * one}}, {api.OpNegate, halfType, []int{math.MaxInt}, []int{-maxValue}},
		{api.OpNegate, intType, []int{5}, []int{-5}}, {api.OpNegate, intType, []int{-1 << 31}, []int{-1 << 31}}, {api.OpNegate, intType, []int{1 << 31}, []int{-1 << 31}}, {api.OpNegate, intType, []int{1<<32 + 7}, []int{-7}},
		{api.OpNegate, vec2Type, []int{1, -2}, []int{-1, 2}}, {api.OpNegate, vec3Type, []int{1, maxValue + 9, -3}, []int{-1, -maxValue, 3}}, {api.OpNegate, vec4Type, []int{0, 1, 2, 3}, []int{0, -1, -2, -3}},
		{api.OpNot, intType, []int{0}, []int{-1}}, {api.OpNot, intType, []int{1<<31 - 1}, []int{-1 << 31}}, {api.OpNot, intType, []int{1 << 32}, []int{-1}},
		{api.OpNot, boolType, []int{0}, []int{1}}, {api.OpNot, boolType, []int{1}, []int{0}}, {api.OpNot, boolType, []int{2}, []int{0}}, {api.OpNot, boolType, []int{-1}, []int{0}}, {api.OpNot, boolType, []int{1 << 32}, []int{0}},
		{api.OpNegate, boolType, []int{1}, nil}, {api.OpNot, fixedType, []int{1}, nil}, {api.OpNot, halfType, []int{1}, nil}, {api.OpNot, vec2Type, []int{1, 1}, nil},
		{api.OpNegate, fixedType, nil, nil}, {api.OpNegate, fixedType, []int{1, 2}, nil}, {api.OpNegate, vec2Type, []int{1}, nil}, {api.OpNegate, vec2Type, []int{1, 2, 3}, nil}, {api.OpNot, boolType, nil, nil},
		{api.OpNegate, api.Type{Kind: api.FixedType, Name: "x"}, []int{1}, nil}, {api.OpNegate, api.Type{Kind: api.Vec2Type, Name: "vec2"}, []int{1, 2}, nil}, {api.OpNot, api.Type{Kind: api.IntType, Name: "x"}, []int{1}, nil},
	} {
		checkUnary(t, c.op, c.of, c.x, c.want)
	}
}

func TestP21_1Unary(t *testing.T) {
	for op := api.Operator(-2); op <= 20; op++ {
		for _, of := range simpleTypes() {
			for _, n := range telling() {
				x := slices.Repeat([]int{n}, size(of))
				checkUnary(t, op, of, x, expectedUnary(op, of, x))
			}
			for count := range 6 {
				if count != size(of) {
					checkUnary(t, op, of, make([]int, count), nil)
				}
			}
		}
		for _, of := range append(wrongTypes(), api.Type{}, api.Type{Kind: 9}, api.Type{Kind: -1}, api.Type{Kind: math.MaxInt}) {
			for count := range 6 {
				checkUnary(t, op, of, make([]int, count), nil)
			}
		}
	}
	for _, op := range []api.Operator{math.MinInt, 1<<32 + 17, math.MaxInt} {
		checkUnary(t, op, intType, []int{1}, nil)
		checkBinary(t, op, intType, intType, []int{1}, []int{1}, nil)
	}
}

func TestP21_1BinaryTable(t *testing.T) {
	i := func(n int) []int { return []int{n} }
	const low, high = -1 << 31, 1<<31 - 1
	for _, c := range []struct {
		op   api.Operator
		of   api.Type
		x, y int
		want int
	}{
		{api.OpAdd, fixedType, one, 2, one + 2}, {api.OpAdd, fixedType, maxValue, 1, maxValue}, {api.OpSub, fixedType, -maxValue, 1, -maxValue}, {api.OpAdd, fixedType, maxValue + 5, -5, maxValue - 5}, {api.OpMul, fixedType, one / 2, 3, 2}, {api.OpMul, fixedType, one / 2, -3, -2}, {api.OpDiv, fixedType, one, 3 * one, 21845}, {api.OpDiv, fixedType, one, 0, maxValue}, {api.OpDiv, fixedType, -1, 0, -maxValue}, {api.OpDiv, fixedType, 0, 0, 0}, {api.OpDiv, fixedType, one, -2 * one, -one / 2},
		{api.OpAdd, halfType, 2048 * one, one, 2048 * one}, {api.OpSub, halfType, 2048 * one, -3 * one, 2052 * one}, {api.OpMul, halfType, 3 * one, 683 * one, 2048 * one}, {api.OpDiv, halfType, one, 3 * one, 21840}, {api.OpAdd, halfType, 2049 * one, 2049 * one, 4096 * one}, {api.OpAdd, halfType, math.MaxInt, math.MaxInt, maxValue},
		{api.OpAdd, intType, high, 1, low}, {api.OpSub, intType, low, 1, high}, {api.OpMul, intType, low, low, 0}, {api.OpMul, intType, high, high, 1}, {api.OpMul, intType, 65536, 32768, low}, {api.OpAdd, intType, 1 << 32, 1<<32 + 2, 2},
		{api.OpDiv, intType, 7, 2, 3}, {api.OpDiv, intType, -7, 2, -3}, {api.OpDiv, intType, 7, -2, -3}, {api.OpDiv, intType, -7, -2, 3}, {api.OpDiv, intType, low, -1, low}, {api.OpDiv, intType, 7, 0, 0}, {api.OpDiv, intType, 7, 1 << 32, 0}, {api.OpDiv, intType, 1 << 31, -1, low},
		{api.OpMod, intType, 7, 2, 1}, {api.OpMod, intType, -7, 2, -1}, {api.OpMod, intType, 7, -2, 1}, {api.OpMod, intType, -7, -2, -1}, {api.OpMod, intType, low, -1, 0}, {api.OpMod, intType, 7, 0, 0}, {api.OpMod, intType, 5, 7, 5},
		{api.OpAnd, intType, 12, 10, 8}, {api.OpOr, intType, 12, 10, 14}, {api.OpXor, intType, 12, 10, 6}, {api.OpAnd, intType, -1, high, high}, {api.OpOr, intType, low, 1, low + 1}, {api.OpXor, intType, -1, 1<<32 + 1, -2},
		{api.OpShiftLeft, intType, 1, 31, low}, {api.OpShiftLeft, intType, 1, 32, 1}, {api.OpShiftLeft, intType, 1, 33, 2}, {api.OpShiftLeft, intType, 1, -1, low}, {api.OpShiftLeft, intType, 3, -31, 6}, {api.OpShiftLeft, intType, -1, 4, -16}, {api.OpShiftLeft, intType, high, 1, -2}, {api.OpShiftLeft, intType, 1, math.MinInt, 1},
		{api.OpShiftRight, intType, 16, 3, 2}, {api.OpShiftRight, intType, -1, 31, -1}, {api.OpShiftRight, intType, low, 31, -1}, {api.OpShiftRight, intType, -7, 1, -4}, {api.OpShiftRight, intType, high, 32, high}, {api.OpShiftRight, intType, high, -1, 0}, {api.OpShiftRight, intType, 8, 33, 4}, {api.OpShiftRight, intType, 1 << 31, 1, -1 << 30},
		{api.OpAnd, boolType, 2, 1, 1}, {api.OpAnd, boolType, 2, 0, 0}, {api.OpOr, boolType, 0, -5, 1}, {api.OpOr, boolType, 0, 0, 0}, {api.OpXor, boolType, 3, 1, 0}, {api.OpXor, boolType, 0, 1 << 32, 1},
		{api.OpLess, fixedType, 1, 2, 1}, {api.OpLess, fixedType, 2, 2, 0}, {api.OpLess, fixedType, maxValue, maxValue + 1, 0}, {api.OpLessEqual, fixedType, maxValue + 1, maxValue, 1}, {api.OpGreater, fixedType, 2, 1, 1}, {api.OpGreater, halfType, 1, 1, 0}, {api.OpGreaterEqual, halfType, 1, 1, 1}, {api.OpGreaterEqual, halfType, 0, 1, 0}, {api.OpLess, halfType, 2048*one + 1, 2048*one + 2, 1},
		{api.OpLess, intType, 1 << 31, 0, 1}, {api.OpGreater, intType, high, low, 1}, {api.OpGreaterEqual, intType, 1 << 32, 0, 1}, {api.OpLessEqual, intType, 1, 0, 0},
		{api.OpEqual, fixedType, maxValue + 1, maxValue + 2, 1}, {api.OpEqual, halfType, 2048*one + 1, 2048 * one, 0}, {api.OpEqual, intType, 1 << 32, 0, 1}, {api.OpEqual, intType, maxValue + 1, maxValue + 2, 0}, {api.OpEqual, boolType, 5, -1, 1}, {api.OpNotEqual, boolType, 5, -1, 0}, {api.OpNotEqual, boolType, 5, 0, 1}, {api.OpNotEqual, fixedType, 1, 2, 1}, {api.OpNotEqual, intType, 1, 1 << 33, 1},
	} {
		checkBinary(t, c.op, c.of, c.of, i(c.x), i(c.y), i(c.want))
	}
}

func TestP21_1Vectors(t *testing.T) {
	a, b := []int{one, 2 * one, -3 * one}, []int{one, -one, one / 2}
	for _, c := range []struct {
		op      api.Operator
		u       api.Type
		y, want []int
	}{
		{api.OpAdd, vec3Type, b, []int{2 * one, one, -5 * one / 2}}, {api.OpSub, vec3Type, b, []int{0, 3 * one, -7 * one / 2}}, {api.OpMul, vec3Type, b, []int{one, -2 * one, -3 * one / 2}}, {api.OpDiv, vec3Type, b, []int{one, -2 * one, -6 * one}},
		{api.OpMul, fixedType, []int{one / 2}, []int{one / 2, one, -3 * one / 2}}, {api.OpDiv, fixedType, []int{2 * one}, []int{one / 2, one, -3 * one / 2}}, {api.OpDiv, fixedType, []int{0}, []int{maxValue, maxValue, -maxValue}}, {api.OpMul, fixedType, []int{math.MaxInt}, []int{maxValue, maxValue, -maxValue}},
		{api.OpEqual, vec3Type, b, []int{0}}, {api.OpEqual, vec3Type, a, []int{1}}, {api.OpNotEqual, vec3Type, b, []int{1}}, {api.OpNotEqual, vec3Type, a, []int{0}}, {api.OpEqual, vec3Type, []int{one, 2 * one, 0}, []int{0}}, {api.OpEqual, vec3Type, []int{0, 2 * one, -3 * one}, []int{0}}, {api.OpNotEqual, vec3Type, []int{one, 0, -3 * one}, []int{1}},
		{api.OpAdd, fixedType, []int{one}, nil}, {api.OpSub, fixedType, []int{one}, nil}, {api.OpMul, intType, []int{1}, nil}, {api.OpMul, halfType, []int{one}, nil}, {api.OpMul, vec2Type, []int{1, 2}, nil}, {api.OpMul, vec3Type, []int{1}, nil}, {api.OpMul, fixedType, b, nil}, {api.OpMul, fixedType, nil, nil}, {api.OpLess, vec3Type, b, nil}, {api.OpMod, vec3Type, b, nil}, {api.OpEqual, fixedType, []int{one}, nil},
		{api.OpMul, api.Type{Kind: api.FixedType, Name: "x"}, []int{one}, nil}, {api.OpEqual, api.Type{Kind: api.Vec3Type, Name: "x"}, a, nil},
	} {
		checkBinary(t, c.op, vec3Type, c.u, a, c.y, c.want)
	}
	// The fixed operand is the second one only.
	checkBinary(t, api.OpMul, fixedType, vec2Type, []int{1}, []int{1, 2}, nil)
	checkBinary(t, api.OpMul, api.Type{Kind: api.Vec2Type, Name: "x"}, fixedType, []int{1, 2}, []int{1}, nil)
}

func TestP21_1Binary(t *testing.T) {
	state := uint64(1)
	for op := api.Operator(-2); op <= 20; op++ {
		for _, of := range simpleTypes() {
			for _, u := range simpleTypes() {
				for range 60 {
					x, y := values(&state, size(of)), values(&state, size(u))
					checkBinary(t, op, of, u, x, y, expectedBinary(op, of, u, x, y))
				}
				for count := range 36 {
					if x, y := make([]int, count/6), make([]int, count%6); len(x) != size(of) || len(y) != size(u) {
						checkBinary(t, op, of, u, x, y, nil)
					}
				}
			}
			for _, n := range telling() {
				for _, k := range telling() {
					if x, y := slices.Repeat([]int{n}, size(of)), slices.Repeat([]int{k}, size(of)); len(x) == 1 {
						checkBinary(t, op, of, of, x, y, expectedBinary(op, of, of, x, y))
					}
				}
			}
			for _, wrong := range wrongTypes() {
				for count := range 5 {
					checkBinary(t, op, of, wrong, make([]int, size(of)), make([]int, count), nil)
					checkBinary(t, op, wrong, of, make([]int, count), make([]int, size(of)), nil)
					checkBinary(t, op, wrong, wrong, make([]int, count), make([]int, count), nil)
				}
			}
		}
	}
}

// TestP21_1EqualVectors changes one component of equal vectors.
func TestP21_1EqualVectors(t *testing.T) {
	state := uint64(2)
	for _, of := range []api.Type{vec2Type, vec3Type, vec4Type} {
		for range 50 {
			x := values(&state, size(of))
			for i := range x {
				y := slices.Clone(x)
				checkBinary(t, api.OpEqual, of, of, x, y, []int{1})
				checkBinary(t, api.OpNotEqual, of, of, x, y, []int{0})
				y[i] = values(&state, 1)[0]
				checkBinary(t, api.OpEqual, of, of, x, y, expectedBinary(api.OpEqual, of, of, x, y))
				checkBinary(t, api.OpNotEqual, of, of, x, y, expectedBinary(api.OpNotEqual, of, of, x, y))
			}
		}
	}
}
