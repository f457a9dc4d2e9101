package isa_test

import (
	"math"
	"math/big"
	"slices"
	"strings"
	"testing"

	"frustum/api"
	"frustum/fixed"
	"frustum/isa"
	"frustum/minifloat"
)

const (
	one      = api.One
	maxValue = api.MaxValue
	low      = math.MinInt32
	high     = math.MaxInt32
)

// table has the names of the opcodes from 1 on, each with the fields that it uses: d for Dst, and i for Imm.
const table = `const d i|move d a|add d a b|sub d a b|mul d a b|div d a b|add-int d a b|sub-int d a b|mul-int d a b|div-int d a b|mod-int d a b|
and d a b|or d a b|xor d a b|shift-left d a b|shift-right d a b|less d a b|less-equal d a b|equal d a b|not-equal d a b|min d a b|max d a b|
abs d a|abs-int d a|negate d a|negate-int d a|not-int d a|not-bool d a|floor d a|fract d a|sqrt d a|half d a|fixed-of-int d a|int-of-fixed d a|bool-of-int d a|
select d a b c|input d i|uniform d i|output a i|sample d a b c i|fetch d a b c i|load d a i|if a|else|end-if|loop i|break|continue|end-loop|discard|emit|cut`

var rows = strings.Split(strings.ReplaceAll(table, "\n", ""), "|")

// row returns the name and the fields of an opcode.
func row(op api.Opcode) (string, string) {
	if op < 1 || int(op) > len(rows) {
		return "", ""
	}
	name, fields, _ := strings.Cut(rows[op-1], " ")
	return name, fields
}

// noOpcodes are numbers that no opcode has.
func noOpcodes() []api.Opcode {
	return []api.Opcode{0, -1, -2, -52, 53, 54, 100, 255, 256, 257, 1 << 32, 1<<32 + 1, 1<<32 + 43, -1 << 32, 1<<32 - 1, math.MinInt, math.MinInt + 1, math.MaxInt}
}

func TestP22_1Opcodes(t *testing.T) {
	control := []api.Opcode{api.If, api.Else, api.EndIf, api.Loop, api.Break, api.Continue, api.EndLoop, api.Discard, api.Emit, api.Cut}
	unpure := append([]api.Opcode{api.Input, api.Uniform, api.Output, api.Sample, api.Fetch, api.Load}, control...)
	for op := api.Opcode(1); op <= 52; op++ {
		name, fields := row(op)
		if !isa.Valid(op) || isa.Name(op) != name {
			t.Errorf("opcode %d is valid: %t, and has the name %q, want %q", op, isa.Valid(op), isa.Name(op), name)
		}
		d, a, b, c, i := isa.Operands(op)
		for k, uses := range []bool{d, a, b, c, i} {
			if uses != strings.Contains(" "+fields+" ", " "+string("dabci"[k])+" ") {
				t.Errorf("%s uses field %d: %t", name, k, uses)
			}
		}
		if got := isa.IsControl(op); got != slices.Contains(control, op) {
			t.Errorf("%s is a control instruction: %t", name, got)
		}
		if got := isa.IsPure(op); got != !slices.Contains(unpure, op) {
			t.Errorf("%s is pure: %t", name, got)
		}
	}
	for _, op := range noOpcodes() {
		d, a, b, c, i := isa.Operands(op)
		if isa.Valid(op) || isa.Name(op) != "" || d || a || b || c || i || isa.IsControl(op) || isa.IsPure(op) {
			t.Errorf("%d is taken for an opcode", op)
		}
	}
}

// telling are ints at which operations change: small ones, and those at and beyond the bounds of all kinds.
func telling() []int {
	var all []int
	for _, n := range []int{0, 1, 2, 3, 7, 16, 31, 32, 33, 64, 1000, one / 2, one - 1, one, one + 1, 3 * one / 2, 8191, 8192, 2049 * one, maxValue / one * one, maxValue - 1, maxValue, maxValue + 1, high, high + 1, high + 2, 1<<32 - 1, 1 << 32, 1<<32 + 5, 1<<40 + 3, 1 << 62, math.MaxInt - 1, math.MaxInt} {
		all = append(all, n, -n)
	}
	return append(all, math.MinInt)
}

// wrapped returns an integer of any size modulo 2^32, as an int with 32 bits.
func wrapped(n *big.Int) int {
	rest := new(big.Int).Mod(n, big.NewInt(1<<32)).Int64()
	if rest >= 1<<31 {
		rest -= 1 << 32
	}
	return int(rest)
}

func wrap(n int) int {
	return wrapped(big.NewInt(int64(n)))
}

func saturate(n int) int {
	return max(-maxValue, min(n, maxValue))
}

func truth(x bool) int {
	if x {
		return 1
	}
	return 0
}

// inInts computes an operation of ints in integers of any size.
func inInts(a, b int, f func(x, y, r *big.Int)) int {
	r := new(big.Int)
	f(big.NewInt(int64(wrap(a))), big.NewInt(int64(wrap(b))), r)
	return wrapped(r)
}

// expected is a second reading of P22.2.
func expected(op api.Opcode, a, b, c, imm int) int {
	shift := uint(b & 31)
	switch op {
	case api.Const:
		return imm
	case api.Move:
		return a
	case api.Add, api.Sub, api.Mul, api.Div:
		return []func(int, int) int{fixed.Add, fixed.Sub, fixed.Mul, fixed.Div}[op-api.Add](a, b)
	case api.AddInt:
		return inInts(a, b, func(x, y, r *big.Int) { r.Add(x, y) })
	case api.SubInt:
		return inInts(a, b, func(x, y, r *big.Int) { r.Sub(x, y) })
	case api.MulInt:
		return inInts(a, b, func(x, y, r *big.Int) { r.Mul(x, y) })
	case api.DivInt, api.ModInt:
		return inInts(a, b, func(x, y, r *big.Int) {
			if y.Sign() != 0 {
				if r.Quo(x, y); op == api.ModInt {
					r.Sub(x, r.Mul(r, y))
				}
			}
		})
	case api.And:
		return inInts(a, b, func(x, y, r *big.Int) { r.And(x, y) })
	case api.Or:
		return inInts(a, b, func(x, y, r *big.Int) { r.Or(x, y) })
	case api.Xor:
		return inInts(a, b, func(x, y, r *big.Int) { r.Xor(x, y) })
	case api.ShiftLeft:
		return inInts(a, b, func(x, y, r *big.Int) { r.Lsh(x, shift) })
	case api.ShiftRight:
		return inInts(a, b, func(x, y, r *big.Int) { r.Div(x, big.NewInt(1<<shift)) })
	case api.Less, api.LessEqual, api.Equal, api.NotEqual:
		return truth([]bool{a < b, a <= b, a == b, a != b}[op-api.Less])
	case api.Min:
		return slices.Min([]int{a, b})
	case api.Max:
		return slices.Max([]int{a, b})
	case api.Select:
		if a == 0 {
			return c
		}
		return b
	}
	return expectedUnary(op, a)
}

// expectedUnary is expected of an opcode with one operand.
func expectedUnary(op api.Opcode, a int) int {
	switch op {
	case api.Abs:
		return max(saturate(a), -saturate(a))
	case api.AbsInt:
		return inInts(a, 0, func(x, y, r *big.Int) { r.Abs(x) })
	case api.Negate:
		return -saturate(a)
	case api.NegateInt:
		return inInts(a, 0, func(x, y, r *big.Int) { r.Neg(x) })
	case api.NotInt:
		return inInts(a, 0, func(x, y, r *big.Int) { r.Not(x) })
	case api.NotBool:
		return truth(a == 0)
	case api.Floor:
		return fixed.Floor(a)
	case api.Fract:
		return fixed.Fract(a)
	case api.Sqrt:
		return fixed.Sqrt(a)
	case api.Half:
		return minifloat.Quantize(api.FloatFormat{Exponent: 5, Mantissa: 10, Signed: true}, a)
	case api.FixedOfInt:
		return saturate(wrap(a) * one)
	case api.IntOfFixed:
		return int(math.Floor(float64(saturate(a)) / one))
	case api.BoolOfInt:
		return truth(a != 0)
	}
	return 0
}

func TestP22_2Table(t *testing.T) {
	for _, c := range []struct {
		op              api.Opcode
		a, b, c, i, out int
	}{
		{api.Const, 1, 2, 3, 4, 4}, {api.Const, 0, 0, 0, math.MinInt, math.MinInt}, {api.Move, math.MaxInt, 1, 2, 3, math.MaxInt}, {api.Move, -5, 0, 0, 0, -5},
		{api.Add, maxValue, 1, 0, 0, maxValue}, {api.Add, maxValue + 9, -9, 0, 0, maxValue - 9}, {api.Sub, -maxValue, 1, 0, 0, -maxValue}, {api.Mul, one / 2, 3, 0, 0, 2}, {api.Mul, math.MinInt, one, 0, 0, -maxValue}, {api.Div, one, 3 * one, 0, 0, 21845}, {api.Div, -one, 0, 0, 0, -maxValue}, {api.Div, 0, 0, 0, 0, 0},
		{api.AddInt, high, 1, 0, 0, low}, {api.AddInt, 1 << 32, 1<<32 + 1, 0, 0, 1}, {api.SubInt, low, 1, 0, 0, high}, {api.MulInt, low, low, 0, 0, 0}, {api.MulInt, high, high, 0, 0, 1}, {api.MulInt, math.MaxInt, math.MaxInt, 0, 0, 1},
		{api.DivInt, 7, 0, 0, 0, 0}, {api.DivInt, -7, 2, 0, 0, -3}, {api.DivInt, low, -1, 0, 0, low}, {api.DivInt, 1 << 31, 1<<32 - 1, 0, 0, low}, {api.DivInt, 7, 1 << 32, 0, 0, 0}, {api.ModInt, 7, 0, 0, 0, 0}, {api.ModInt, -7, 2, 0, 0, -1}, {api.ModInt, low, -1, 0, 0, 0}, {api.ModInt, 7, -2, 0, 0, 1},
		{api.And, 12, 10, 0, 0, 8}, {api.Or, 12, 10, 0, 0, 14}, {api.Xor, 12, 10, 0, 0, 6}, {api.And, -1, 1 << 31, 0, 0, low}, {api.Or, 1 << 32, 2, 0, 0, 2},
		{api.ShiftLeft, 1, 31, 0, 0, low}, {api.ShiftLeft, 1, 32, 0, 0, 1}, {api.ShiftLeft, 1, -1, 0, 0, low}, {api.ShiftLeft, 1, math.MinInt, 0, 0, 1}, {api.ShiftRight, low, 31, 0, 0, -1}, {api.ShiftRight, -7, 1, 0, 0, -4}, {api.ShiftRight, 8, 33, 0, 0, 4}, {api.ShiftRight, 1 << 31, 0, 0, 0, low},
		// Comparisons do not saturate or wrap.
		{api.Less, maxValue + 1, maxValue + 2, 0, 0, 1}, {api.Less, 1, 1, 0, 0, 0}, {api.LessEqual, 1, 1, 0, 0, 1}, {api.LessEqual, 1 << 32, 0, 0, 0, 0}, {api.Equal, 1 << 32, 0, 0, 0, 0}, {api.Equal, 5, 5, 0, 0, 1}, {api.NotEqual, 1 << 32, 0, 0, 0, 1}, {api.NotEqual, 5, 5, 0, 0, 0}, {api.Min, math.MaxInt, math.MaxInt - 1, 0, 0, math.MaxInt - 1}, {api.Max, math.MinInt, math.MinInt + 1, 0, 0, math.MinInt + 1},
		{api.Abs, -7, 0, 0, 0, 7}, {api.Abs, math.MinInt, 0, 0, 0, maxValue}, {api.Abs, math.MaxInt, 0, 0, 0, maxValue}, {api.AbsInt, -7, 0, 0, 0, 7}, {api.AbsInt, low, 0, 0, 0, low}, {api.AbsInt, 1 << 31, 0, 0, 0, low}, {api.AbsInt, 1<<32 - 1, 0, 0, 0, 1}, {api.AbsInt, 1<<32 + 1, 0, 0, 0, 1}, {api.Negate, math.MinInt, 0, 0, 0, maxValue}, {api.NegateInt, low, 0, 0, 0, low}, {api.NegateInt, 1<<32 + 3, 0, 0, 0, -3}, {api.NotInt, 0, 0, 0, 0, -1}, {api.NotInt, 1<<32 - 1, 0, 0, 0, 0}, {api.NotInt, high, 0, 0, 0, low},
		{api.NotBool, 0, 0, 0, 0, 1}, {api.NotBool, 1, 0, 0, 0, 0}, {api.NotBool, 2, 0, 0, 0, 0}, {api.NotBool, 1 << 32, 0, 0, 0, 0}, {api.NotBool, -1, 0, 0, 0, 0}, {api.BoolOfInt, 0, 0, 0, 0, 0}, {api.BoolOfInt, -3, 0, 0, 0, 1}, {api.BoolOfInt, 1 << 32, 0, 0, 0, 1},
		{api.Floor, -1, 0, 0, 0, -one}, {api.Floor, math.MinInt, 0, 0, 0, -maxValue}, {api.Fract, -1, 0, 0, 0, one - 1}, {api.Sqrt, 4 * one, 0, 0, 0, 2 * one}, {api.Sqrt, -1, 0, 0, 0, 0}, {api.Half, 2049 * one, 0, 0, 0, 2048 * one}, {api.Half, math.MaxInt, 0, 0, 0, maxValue},
		{api.FixedOfInt, 5, 0, 0, 0, 5 * one}, {api.FixedOfInt, 8192, 0, 0, 0, maxValue}, {api.FixedOfInt, high, 0, 0, 0, maxValue}, {api.FixedOfInt, 1 << 31, 0, 0, 0, -maxValue}, {api.FixedOfInt, 1<<32 + 1, 0, 0, 0, one}, {api.IntOfFixed, -1, 0, 0, 0, -1}, {api.IntOfFixed, 3*one - 1, 0, 0, 0, 2}, {api.IntOfFixed, math.MaxInt, 0, 0, 0, 8191}, {api.IntOfFixed, math.MinInt, 0, 0, 0, -8192},
		{api.Select, 0, 1, 2, 3, 2}, {api.Select, 1, 1, 2, 3, 1}, {api.Select, -1, math.MaxInt, 2, 3, math.MaxInt}, {api.Select, 1 << 32, 7, 8, 9, 7}, {api.Select, 0, 7, math.MinInt, 9, math.MinInt},
	} {
		if got := isa.Compute(c.op, c.a, c.b, c.c, c.i); got != c.out {
			t.Errorf("%s of %d, %d, %d and %d is %d, want %d", isa.Name(c.op), c.a, c.b, c.c, c.i, got, c.out)
		}
	}
}

func TestP22_2Compute(t *testing.T) {
	all := telling()
	for op := api.Opcode(-3); op <= 60; op++ {
		for k, a := range all {
			for _, b := range all {
				c, imm := all[(k+5)%len(all)], all[(k+11)%len(all)]
				if got, want := isa.Compute(op, a, b, c, imm), expected(op, a, b, c, imm); got != want {
					t.Fatalf("%s (%d) of %d, %d, %d and %d is %d, want %d", isa.Name(op), op, a, b, c, imm, got, want)
				}
			}
		}
	}
	for _, op := range noOpcodes() {
		if got := isa.Compute(op, 1, 2, 3, 4); got != 0 {
			t.Errorf("Compute of %d is %d", op, got)
		}
	}
}
