package blend_test

import (
	"math"
	"math/big"
	"testing"

	"frustum/api"
	"frustum/blend"
	"frustum/texel"
)

const (
	one      = api.One
	most     = api.MaxValue
	largest  = math.MaxInt
	smallest = math.MinInt
)

// factors returns the factors, and unknown ones.
func factors() []api.BlendFactor {
	return []api.BlendFactor{api.FactorZero, api.FactorOne, api.SourceColor, api.OneMinusSourceColor, api.SourceAlpha, api.OneMinusSourceAlpha, api.TargetColor, api.OneMinusTargetColor, api.TargetAlpha, api.OneMinusTargetAlpha, 0, 11, 12, -1, -10, 1 << 8, 1<<32 + 2, largest, smallest}
}

// operations returns the operations, and unknown ones.
func operations() []api.BlendOp {
	return []api.BlendOp{api.BlendAdd, api.BlendSubtract, api.BlendReverseSubtract, api.BlendMin, api.BlendMax, 0, 6, -1, -5, 1 << 8, 1<<32 + 1, largest, smallest}
}

// formats returns the texel formats, and unknown ones.
func formats() []api.TexelFormat {
	return []api.TexelFormat{api.R8, api.RGBA8, api.RGB565, api.RGB10A2, api.R16F, api.RGBA16F, 0, 7, -1, largest}
}

// vector returns a vector with four components.
func vector(c [4]int) api.Vec4 {
	return api.Vec4{X: c[0], Y: c[1], Z: c[2], W: c[3]}
}

// state makes arbitrary colors.
type state uint64

func (s *state) next(beyond int) int {
	*s = *s*6364136223846793005 + 1442695040888963407
	return int(*s>>33) % beyond
}

// number returns a component of a color, or a number of any magnitude.
func (s *state) number() int {
	switch s.next(4) {
	case 0:
		return []int{0, 1, -1, one / 2, one - 1, one, one + 1, -one, 2 * one, most, most + 1, -most, -most - 1, 1 << 32, largest, smallest}[s.next(16)]
	case 1:
		*s = *s*6364136223846793005 + 1442695040888963407
		return int(*s) >> (*s >> 17 % 64)
	}
	return s.next(one + 1)
}

func (s *state) color() [4]int {
	return [4]int{s.number(), s.number(), s.number(), s.number()}
}

// state returns an arbitrary state, which is mostly valid.
func (s *state) state() api.BlendState {
	factor := func() api.BlendFactor { return factors()[s.next(11)] }
	op := func() api.BlendOp { return operations()[s.next(6)] }
	return api.BlendState{Enable: s.next(5) > 0, SourceColor: factor(), TargetColor: factor(), ColorOp: op(), SourceAlpha: factor(), TargetAlpha: factor(), AlphaOp: op(), Mask: s.next(16)}
}

// exact numbers and their operations, as chapter 1 defines them.
func exact(x int) *big.Int { return big.NewInt(int64(x)) }

func sat(x *big.Int) *big.Int {
	if x.CmpAbs(exact(most)) > 0 {
		return exact(most * x.Sign())
	}
	return x
}

// mul returns the rounded product of two numbers, saturated.
func mul(a, b int) *big.Int {
	product := new(big.Int).Mul(sat(exact(a)), sat(exact(b)))
	twice := new(big.Int).Abs(product)
	twice.Add(twice, exact(one/2)).Rsh(twice, 16)
	if product.Sign() < 0 {
		twice.Neg(twice)
	}
	return sat(twice)
}

// number returns a saturated exact number as an int.
func number(x *big.Int) int { return int(sat(x).Int64()) }

// expectedFactor returns a component of a factor: its kind is given by its number, of which odd ones from 3 on are followed by their One minus.
func expectedFactor(f api.BlendFactor, source, target [4]int, i int) int {
	x := 0
	switch f {
	case 2:
		return one
	case 3, 4:
		x = source[i]
	case 5, 6:
		x = source[3]
	case 7, 8:
		x = target[i]
	case 9, 10:
		x = target[3]
	default:
		return 0
	}
	if f%2 == 0 {
		return number(new(big.Int).Sub(exact(one), sat(exact(x))))
	}
	return x
}

// expectedCombine returns what Combine must return.
func expectedCombine(op api.BlendOp, s, sf, t, tf int) int {
	first, second := mul(s, sf), mul(t, tf)
	switch op {
	case 1:
		return number(new(big.Int).Add(first, second))
	case 2:
		return number(new(big.Int).Sub(first, second))
	case 3:
		return number(new(big.Int).Sub(second, first))
	case 4, 5:
		a, b := sat(exact(s)), sat(exact(t))
		if (a.Cmp(b) < 0) == (op == 4) {
			return number(a)
		}
		return number(b)
	}
	return 0
}

// expectedBlend returns the blended color.
func expectedBlend(b api.BlendState, source, target [4]int) [4]int {
	var result [4]int
	for i := range 4 {
		op, sf, tf := b.ColorOp, b.SourceColor, b.TargetColor
		if i == 3 {
			op, sf, tf = b.AlphaOp, b.SourceAlpha, b.TargetAlpha
		}
		result[i] = number(exact(source[i]))
		if b.Enable {
			result[i] = expectedCombine(op, source[i], expectedFactor(sf, source, target, i), target[i], expectedFactor(tf, source, target, i))
		}
	}
	return result
}

// expectedWrite returns the color that is stored.
func expectedWrite(b api.BlendState, f api.TexelFormat, source, target [4]int) api.Vec4 {
	result := expectedBlend(b, source, target)
	for i, unit := range []int{1, 2, 4, 8} {
		if b.Mask&unit == 0 {
			result[i] = target[i]
		}
	}
	return texel.Quantize(f, vector(result))
}

func TestP40_1Valid(t *testing.T) {
	for i, f := range factors() {
		if got := blend.ValidFactor(f); got != (i < 10) {
			t.Errorf("ValidFactor(%d) is %t", f, got)
		}
	}
	for i, op := range operations() {
		if got := blend.ValidOp(op); got != (i < 5) {
			t.Errorf("ValidOp(%d) is %t", op, got)
		}
	}
	check := func(want bool, change func(s *api.BlendState)) {
		t.Helper()
		for _, enable := range []bool{false, true} {
			s := api.BlendState{Enable: enable, SourceColor: api.SourceAlpha, TargetColor: api.OneMinusSourceAlpha, ColorOp: api.BlendAdd, SourceAlpha: api.FactorOne, TargetAlpha: api.FactorZero, AlphaOp: api.BlendMax, Mask: 15}
			change(&s)
			if got := blend.Valid(s); got != want {
				t.Errorf("Valid of %+v is %t", s, got)
			}
		}
	}
	check(true, func(*api.BlendState) {})
	for i, f := range factors() {
		check(i < 10, func(s *api.BlendState) { s.SourceColor = f })
		check(i < 10, func(s *api.BlendState) { s.TargetColor = f })
		check(i < 10, func(s *api.BlendState) { s.SourceAlpha = f })
		check(i < 10, func(s *api.BlendState) { s.TargetAlpha = f })
	}
	for i, op := range operations() {
		check(i < 5, func(s *api.BlendState) { s.ColorOp = op })
		check(i < 5, func(s *api.BlendState) { s.AlphaOp = op })
	}
	for mask, want := range map[int]bool{0: true, 1: true, 8: true, 14: true, 15: true, 16: false, 17: false, -1: false, -16: false, 1 << 32: false, 1<<32 + 5: false, largest: false, smallest: false} {
		check(want, func(s *api.BlendState) { s.Mask = mask })
	}
	if blend.Valid(api.BlendState{}) {
		t.Error("the zero state is valid")
	}
}

func TestP40_2Factor(t *testing.T) {
	source, target := [4]int{one, 0, one / 4, one / 2}, [4]int{5, one + 7, -3, one / 8}
	for f, want := range map[api.BlendFactor][4]int{
		api.FactorZero: {}, api.FactorOne: {one, one, one, one}, api.SourceColor: source, api.OneMinusSourceColor: {0, one, 3 * one / 4, one / 2}, api.SourceAlpha: {one / 2, one / 2, one / 2, one / 2}, api.OneMinusSourceAlpha: {one / 2, one / 2, one / 2, one / 2}, api.TargetColor: target, api.OneMinusTargetColor: {one - 5, -7, one + 3, 7 * one / 8}, api.TargetAlpha: {one / 8, one / 8, one / 8, one / 8}, api.OneMinusTargetAlpha: {7 * one / 8, 7 * one / 8, 7 * one / 8, 7 * one / 8},
		0: {}, 11: {}, -1: {}, 1<<32 + 2: {}, largest: {}, smallest: {},
	} {
		if got := blend.Factor(f, vector(source), vector(target)); got != vector(want) {
			t.Errorf("factor %d is %v, want %v", f, got, want)
		}
	}
	// Colors are taken as they are, and differences are saturated.
	huge := [4]int{largest, smallest, most + 1, smallest}
	for f, want := range map[api.BlendFactor][4]int{api.SourceColor: huge, api.OneMinusSourceColor: {one - most, most, one - most, most}, api.SourceAlpha: {smallest, smallest, smallest, smallest}, api.OneMinusSourceAlpha: {most, most, most, most}} {
		if got := blend.Factor(f, vector(huge), vector(target)); got != vector(want) {
			t.Errorf("factor %d is %v, want %v", f, got, want)
		}
		if got := blend.Factor(f+4, vector(target), vector(huge)); got != vector(want) {
			t.Errorf("factor %d is %v, want %v", f+4, got, want)
		}
	}
}

func TestP40_3Combine(t *testing.T) {
	for _, c := range []struct {
		op                   api.BlendOp
		s, sf, t, tf, result int
	}{
		{api.BlendAdd, one, one / 2, one / 4, one, 3 * one / 4}, {api.BlendAdd, 3, one / 2, 0, 0, 2}, {api.BlendAdd, 3, one / 2, 3, one / 2, 4}, {api.BlendAdd, most, one, most, one, most}, {api.BlendAdd, -most, one, -1, one, -most}, {api.BlendAdd, largest, one, smallest, one, 0},
		{api.BlendSubtract, one, one / 2, one / 4, one, one / 4}, {api.BlendSubtract, one / 4, one, one, one / 2, -one / 4}, {api.BlendSubtract, most, one, -most, one, most}, {api.BlendReverseSubtract, one, one / 2, one / 4, one, -one / 4}, {api.BlendReverseSubtract, most, one, -most, one, -most}, {api.BlendReverseSubtract, 0, 0, 5, one, 5},
		// The factors do not count for the smaller and the larger component.
		{api.BlendMin, 5, 0, 7, 0, 5}, {api.BlendMin, 7, one, 5, one, 5}, {api.BlendMax, 5, 0, 7, 0, 7}, {api.BlendMax, 7, one, 5, one, 7}, {api.BlendMin, smallest, one, 0, one, -most}, {api.BlendMax, largest, one, 0, one, most}, {api.BlendMin, largest, 0, most, 0, most}, {api.BlendMax, smallest, 0, -most, 0, -most}, {api.BlendMin, -5, 0, -5, 0, -5},
		{0, one, one, one, one, 0}, {6, one, one, one, one, 0}, {-1, one, one, one, one, 0}, {1<<32 + 1, one, one, one, one, 0}, {largest, one, one, one, one, 0},
	} {
		if got := blend.Combine(c.op, c.s, c.sf, c.t, c.tf); got != c.result {
			t.Errorf("Combine(%d, %d, %d, %d, %d) is %d, want %d", c.op, c.s, c.sf, c.t, c.tf, got, c.result)
		}
	}
	s := state(1)
	for range 20000 {
		op, a, b, c, d := operations()[s.next(7)], s.number(), s.number(), s.number(), s.number()
		if got, want := blend.Combine(op, a, b, c, d), expectedCombine(op, a, b, c, d); got != want {
			t.Errorf("Combine(%d, %d, %d, %d, %d) is %d, want %d", op, a, b, c, d, got, want)
		}
	}
}

func TestP40_4Example(t *testing.T) {
	over := api.BlendState{Enable: true, SourceColor: api.SourceAlpha, TargetColor: api.OneMinusSourceAlpha, ColorOp: api.BlendAdd, SourceAlpha: api.FactorOne, TargetAlpha: api.OneMinusSourceAlpha, AlphaOp: api.BlendAdd, Mask: 15}
	source, target := api.Vec4{X: one, W: one / 2}, api.Vec4{Y: one, W: one}
	if got := blend.Blend(over, source, target); got != (api.Vec4{X: one / 2, Y: one / 2, W: one}) {
		t.Errorf("the color is %v", got)
	}
	// Color and alpha have factors and operations of their own.
	over.AlphaOp, over.SourceAlpha, over.TargetAlpha = api.BlendReverseSubtract, api.TargetAlpha, api.SourceAlpha
	if got := blend.Blend(over, source, target); got != (api.Vec4{X: one / 2, Y: one / 2}) {
		t.Errorf("the color is %v", got)
	}
	over.AlphaOp, over.ColorOp = api.BlendMin, api.BlendMax
	if got := blend.Blend(over, source, target); got != (api.Vec4{X: one, Y: one, W: one / 2}) {
		t.Errorf("the color is %v", got)
	}
	over.AlphaOp, over.ColorOp = 0, 6
	if got := blend.Blend(over, source, target); got != (api.Vec4{}) {
		t.Errorf("with unknown operations the color is %v", got)
	}
	over.Enable = false
	if got := blend.Blend(over, source, target); got != source {
		t.Errorf("without blending the color is %v", got)
	}
	if got := blend.Blend(api.BlendState{}, api.Vec4{X: largest, Y: smallest, Z: most + 1, W: -most - 1}, target); got != (api.Vec4{X: most, Y: -most, Z: most, W: -most}) {
		t.Errorf("without blending the color is %v", got)
	}
}

func TestP40_4Write(t *testing.T) {
	off := api.BlendState{SourceColor: 1, TargetColor: 1, ColorOp: 1, SourceAlpha: 1, TargetAlpha: 1, AlphaOp: 1}
	source, target := [4]int{one, 0, one, one / 2}, [4]int{0, one, 65278, one}
	// 65278 is 254/255, and a half becomes 128/255.
	stored := [4]int{one, 0, one, 32897}
	for mask := -17; mask < 40; mask++ {
		off.Mask = mask
		want := target
		for i := range 4 {
			if uint(mask)>>i%2 == 1 {
				want[i] = stored[i]
			}
		}
		if want[2] == target[2] {
			want[2] = texel.FromUNorm(254, 8)
		}
		if got := blend.Write(off, api.RGBA8, vector(source), vector(target)); got != vector(want) {
			t.Errorf("with the mask %d the color is %v, want %v", mask, got, want)
		}
	}
	// Components that are not stored, and formats that are unknown.
	off.Mask = 15
	if got := blend.Write(off, api.R8, vector(source), vector(target)); got != (api.Vec4{X: one, W: one}) {
		t.Errorf("in R8 the color is %v", got)
	}
	for _, f := range formats()[6:] {
		if got := blend.Write(off, f, vector(source), vector(target)); got != (api.Vec4{}) {
			t.Errorf("in the unknown format %d the color is %v", f, got)
		}
	}
}

// TestP40_5Arbitrary compares all functions with exact numbers, for arbitrary states and colors.
func TestP40_5Arbitrary(t *testing.T) {
	s := state(2)
	for range 40000 {
		b, source, target := s.state(), s.color(), s.color()
		f := factors()[s.next(12)]
		for i := range 4 {
			want := expectedFactor(f, source, target, i)
			got := blend.Factor(f, vector(source), vector(target))
			if [4]int{got.X, got.Y, got.Z, got.W}[i] != want {
				t.Fatalf("component %d of factor %d of %v and %v is %v, want %d", i, f, source, target, got, want)
			}
		}
		if got, want := blend.Blend(b, vector(source), vector(target)), vector(expectedBlend(b, source, target)); got != want {
			t.Fatalf("%v over %v gives %v with %+v, want %v", source, target, got, b, want)
		}
		format := formats()[s.next(8)]
		if got, want := blend.Write(b, format, vector(source), vector(target)), expectedWrite(b, format, source, target); got != want {
			t.Fatalf("%v over %v gives %v with %+v in format %d, want %v", source, target, got, b, format, want)
		}
	}
}

// TestP40_5Consequences has the state that replaces the target, and masks that keep it.
func TestP40_5Consequences(t *testing.T) {
	s := state(3)
	replace := api.BlendState{Enable: true, SourceColor: api.FactorOne, TargetColor: api.FactorZero, ColorOp: api.BlendAdd, SourceAlpha: api.FactorOne, TargetAlpha: api.FactorZero, AlphaOp: api.BlendAdd, Mask: 15}
	for range 5000 {
		source, target := s.color(), s.color()
		var want [4]int
		for i, x := range source {
			want[i] = number(exact(x))
		}
		if got := blend.Blend(replace, vector(source), vector(target)); got != vector(want) {
			t.Fatalf("%v becomes %v", source, got)
		}
		b := s.state()
		for _, f := range formats()[:6] {
			kept := texel.Quantize(f, vector(target))
			got := blend.Write(b, f, vector(source), kept)
			before, after := [4]int{kept.X, kept.Y, kept.Z, kept.W}, [4]int{got.X, got.Y, got.Z, got.W}
			for i := range 4 {
				if b.Mask>>i%2 == 0 && before[i] != after[i] {
					t.Fatalf("component %d of %v becomes %d with the mask %d in format %d", i, kept, after[i], b.Mask, f)
				}
			}
		}
	}
}
