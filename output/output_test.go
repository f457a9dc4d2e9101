package output_test

import (
	"fmt"
	"math"
	"slices"
	"testing"

	"frustum/api"
	"frustum/blend"
	"frustum/depth"
	"frustum/output"
	"frustum/pipeline"
	"frustum/stencil"
	"frustum/target"
	"frustum/texel"
)

const (
	one      = api.One
	largest  = math.MaxInt
	smallest = math.MinInt
)

// state makes arbitrary numbers.
type state uint64

func (s *state) next(beyond int) int {
	*s = *s*6364136223846793005 + 1442695040888963407
	return int(*s>>33) % beyond
}

// number returns an arbitrary number, mostly one in [0, One].
func (s *state) number() int {
	if s.next(5) == 0 {
		return []int{0, 1, -1, one, one + 1, largest, smallest, 1 << 32, 255, 256}[s.next(10)]
	}
	return s.next(one + 1)
}

func (s *state) color() api.Vec4 {
	return api.Vec4{X: s.number(), Y: s.number(), Z: s.number(), W: s.number()}
}

// target returns a valid target of any kind, with arbitrary contents.
func (s *state) target() api.Target {
	t, _ := target.New(1+s.next(3), 1+s.next(3), 1<<s.next(4), api.TexelFormat(1+s.next(6)), api.DepthFormat(1+s.next(3)))
	for _, m := range t.Color {
		for i := range m.Data {
			m.Data[i] = byte(s.next(256))
		}
	}
	for i := range t.Depths {
		t.Depths[i] = s.next(depth.Max(t.Depth) + 1)
		if t.Depth == api.D24S8 {
			t.Stencils[i] = s.next(256)
		}
	}
	return t
}

func (s *state) face() api.StencilFace {
	return api.StencilFace{Compare: api.CompareFunc(1 + s.next(8)), Fail: api.StencilOp(1 + s.next(8)), DepthFail: api.StencilOp(1 + s.next(8)), Pass: api.StencilOp(1 + s.next(8))}
}

// pipeline returns a pipeline with arbitrary valid states.
func (s *state) pipeline() api.Pipeline {
	p := pipeline.Default()
	p.Depth = api.DepthState{Test: s.next(4) > 0, Write: s.next(3) > 0, Compare: api.CompareFunc(1 + s.next(8)), Bias: s.next(2) * (s.next(2*one+1) - one)}
	p.Stencil = api.StencilState{Test: s.next(4) > 0, Front: s.face(), Back: s.face(), Reference: s.next(256), ReadMask: s.next(256), WriteMask: s.next(256)}
	p.Blend = api.BlendState{Enable: s.next(2) == 0, SourceColor: api.BlendFactor(1 + s.next(10)), TargetColor: api.BlendFactor(1 + s.next(10)), ColorOp: api.BlendOp(1 + s.next(5)), SourceAlpha: api.BlendFactor(1 + s.next(10)), TargetAlpha: api.BlendFactor(1 + s.next(10)), AlphaOp: api.BlendOp(1 + s.next(5)), Mask: s.next(16)}
	return p
}

// fragment returns a fragment, mostly one of a pixel of a target.
func (s *state) fragment(t api.Target) api.Fragment {
	f := api.Fragment{X: s.next(t.Width), Y: s.next(t.Height), Mask: s.next(256), Primitive: s.next(9), Front: s.next(2) == 0}
	if s.next(8) == 0 {
		f.X, f.Y = s.next(6)-1, s.next(6)-1
	}
	for range t.Samples - s.next(2)*s.next(2) {
		f.Depths = append(f.Depths, s.number())
	}
	return f
}

// bitOf returns a bit of a number, by division.
func bitOf(mask, i int) bool {
	for range i {
		mask >>= 1
	}
	return mask%2 != 0
}

// expectedOutcome is a second reading of P46.1.
func expectedOutcome(p api.Pipeline, t api.Target, f api.Fragment, sample int, discarded bool) api.Outcome {
	exists := target.Valid(t) && f.X >= 0 && f.X < t.Width && f.Y >= 0 && f.Y < t.Height && sample >= 0 && sample < t.Samples
	if !exists || !bitOf(f.Mask, sample) {
		return 0
	}
	z := 0
	if len(f.Depths) > sample {
		z = f.Depths[sample]
	}
	stencilPasses := t.Depth != api.D24S8 || stencil.Passes(p.Stencil, f.Front, target.Stencil(t, f.X, f.Y, sample))
	depthPasses, _ := depth.Test(p.Depth, t.Depth, z, target.Depth(t, f.X, f.Y, sample))
	switch {
	case discarded:
		return api.Discarded
	case !stencilPasses:
		return api.StencilFailed
	case !depthPasses:
		return api.DepthFailed
	}
	return api.Written
}

// expectedSample is a second reading of P46.2, in which each value of the target is looked at.
func expectedSample(p api.Pipeline, t api.Target, f api.Fragment, sample int, color api.Vec4, discarded bool) (api.Target, api.Outcome) {
	outcome := expectedOutcome(p, t, f, sample, discarded)
	result := target.Clone(t)
	if outcome < api.StencilFailed {
		return result, outcome
	}
	for y := range t.Height {
		for x := range t.Width {
			if x != f.X || y != f.Y {
				continue
			}
			at := y*t.Width*t.Samples + x*t.Samples + sample
			if t.Depth == api.D24S8 {
				result.Stencils[at] = stencil.Update(p.Stencil, f.Front, t.Stencils[at], outcome > api.StencilFailed, outcome > api.DepthFailed)
			}
			if outcome != api.Written {
				continue
			}
			z := 0
			if len(f.Depths) > sample {
				z = f.Depths[sample]
			}
			_, result.Depths[at] = depth.Test(p.Depth, t.Depth, z, t.Depths[at])
			format := t.Color[0].Format
			size := texel.Size(format)
			from := (y*t.Width + x) * size
			stored := texel.Decode(format, t.Color[sample].Data[from:from+size])
			copy(result.Color[sample].Data[from:], texel.Encode(format, blend.Write(p.Blend, format, color, stored)))
		}
	}
	return result, outcome
}

// same reports whether two targets are equal, where nil and empty lists are alike.
func same(a, b api.Target) bool {
	return fmt.Sprint(a) == fmt.Sprint(b)
}

// check compares Sample and Outcome with their second readings.
func check(t *testing.T, p api.Pipeline, u api.Target, f api.Fragment, sample int, color api.Vec4, discarded bool) (api.Target, api.Outcome) {
	t.Helper()
	before := fmt.Sprint(p, u, f)
	want, outcome := expectedSample(p, u, f, sample, color, discarded)
	got, code := output.Sample(p, u, f, sample, color, discarded)
	if code != outcome || !same(got, want) {
		t.Fatalf("sample %d of %v in %v with the color %v becomes %v, %d, want %v, %d", sample, f, u, color, got, code, want, outcome)
	}
	if o := output.Outcome(p, u, f, sample, discarded); o != outcome {
		t.Fatalf("the outcome of sample %d of %v in %v is %d, want %d", sample, f, u, o, outcome)
	}
	result, _ := output.Sample(p, u, f, sample, color, discarded)
	spoil(result)
	if fmt.Sprint(p, u, f) != before {
		t.Fatal("an argument was changed")
	}
	return got, outcome
}

// spoil changes all that a target refers to.
func spoil(t api.Target) {
	for i := range t.Color {
		for k := range t.Color[i].Data {
			t.Color[i].Data[k] ^= 0x55
		}
		t.Color[i].Width++
	}
	for i := range t.Depths {
		t.Depths[i]++
	}
	for i := range t.Stencils {
		t.Stencils[i]++
	}
}

// checkFragment compares Fragment with its samples, one after the other.
func checkFragment(t *testing.T, p api.Pipeline, u api.Target, f api.Fragment, color api.Vec4, discarded bool) int {
	t.Helper()
	before := fmt.Sprint(p, u, f)
	want, count := target.Clone(u), 0
	for sample := range 8 {
		var outcome api.Outcome
		if want, outcome = expectedSample(p, want, f, sample, color, discarded); outcome == api.Written {
			count++
		}
	}
	got, written := output.Fragment(p, u, f, color, discarded)
	if written != count || !same(got, want) {
		t.Fatalf("%v in %v with the color %v becomes %v with %d samples, want %v with %d", f, u, color, got, written, want, count)
	}
	result, _ := output.Fragment(p, u, f, color, discarded)
	spoil(result)
	if fmt.Sprint(p, u, f) != before {
		t.Fatal("an argument was changed")
	}
	return written
}

// tested returns a pipeline with a stencil test for the reference 5 and a depth test with LessThan.
func tested() api.Pipeline {
	p := pipeline.Default()
	face := api.StencilFace{Compare: api.EqualTo, Fail: api.ZeroValue, DepthFail: api.IncrementWrap, Pass: api.InvertValue}
	p.Stencil = api.StencilState{Test: true, Front: face, Back: face, Reference: 5, ReadMask: 255, WriteMask: 255}
	p.Stencil.Back.Compare = api.Different
	p.Depth = api.DepthState{Test: true, Write: true, Compare: api.LessThan}
	return p
}

func TestP46_1Outcome(t *testing.T) {
	made := func(d api.DepthFormat) api.Target {
		u, _ := target.New(2, 1, 2, api.RGBA8, d)
		u = target.Store(u, 1, 0, 1, api.Vec4{}, depth.Quantize(d, one/2), 5)
		return target.Store(u, 1, 0, 0, api.Vec4{}, depth.Quantize(d, one), 6)
	}
	p := tested()
	for _, c := range []struct {
		d         api.DepthFormat
		sample, z int
		front     bool
		discarded bool
		want      api.Outcome
	}{
		{api.D24S8, 1, one/2 - 1, true, false, api.Written}, {api.D24S8, 1, one / 2, true, false, api.DepthFailed}, {api.D24S8, 1, one/2 - 1, false, false, api.StencilFailed}, {api.D24S8, 1, one, false, false, api.StencilFailed}, {api.D24S8, 0, one - 1, true, false, api.StencilFailed}, {api.D24S8, 0, one - 1, false, false, api.Written}, {api.D24S8, 0, one, false, false, api.DepthFailed},
		{api.D16, 1, one/2 - 1, true, false, api.Written}, {api.D16, 1, one / 2, false, false, api.DepthFailed}, {api.D16, 0, one - 1, true, false, api.Written}, {api.NoDepth, 0, one, true, false, api.Written}, {api.NoDepth, 1, largest, false, false, api.Written},
		// A discarded fragment is discarded, whatever the tests would give.
		{api.D24S8, 1, one/2 - 1, true, true, api.Discarded}, {api.D24S8, 1, one, true, true, api.Discarded}, {api.D24S8, 0, 0, true, true, api.Discarded}, {api.NoDepth, 0, 0, true, true, api.Discarded},
		// Depths are limited to [0, One].
		{api.D16, 0, -5, true, false, api.Written}, {api.D16, 0, smallest, true, false, api.Written}, {api.D16, 0, largest, true, false, api.DepthFailed},
	} {
		f := api.Fragment{X: 1, Mask: 3, Front: c.front, Depths: []int{c.z, c.z}}
		if _, got := check(t, p, made(c.d), f, c.sample, api.Vec4{}, c.discarded); got != c.want {
			t.Errorf("the outcome of %+v is %d", c, got)
		}
	}
	// A depth that is missing is 0.
	for _, depths := range [][]int{nil, {one}} {
		f := api.Fragment{X: 1, Mask: 3, Depths: depths}
		if _, got := check(t, p, made(api.D16), f, 1, api.Vec4{}, false); got != api.Written {
			t.Errorf("with the depths %v the outcome is %d", depths, got)
		}
	}
}

func TestP46_1Nothing(t *testing.T) {
	u, _ := target.New(2, 3, 4, api.RGB565, api.D24S8)
	p := tested()
	p.Stencil.Test = false
	p.Depth.Test = false
	good := api.Fragment{X: 1, Y: 2, Mask: 15, Depths: []int{0, 0, 0, 0}}
	for _, discarded := range []bool{false, true} {
		for _, n := range []int{-1, 3, 4, 64, 1 << 32, largest, smallest} {
			f := good
			f.X = n
			checkNothing(t, p, u, f, 0, discarded)
			f = good
			f.Y = n
			checkNothing(t, p, u, f, 0, discarded)
			if n != 3 {
				checkNothing(t, p, u, good, n, discarded)
			}
		}
		for sample := range 4 {
			f := good
			f.Mask = 15 - 1<<sample
			checkNothing(t, p, u, f, sample, discarded)
			f.Mask = -1 - 1<<sample
			checkNothing(t, p, u, f, sample, discarded)
			for _, mask := range []int{1 << sample, -1, largest, 1<<sample + 256, smallest + 1<<sample} {
				f.Mask = mask
				if _, got := check(t, p, u, f, sample, api.Vec4{X: one}, discarded); (got == api.Written) == discarded || got == 0 {
					t.Errorf("the outcome with the mask %d is %d", mask, got)
				}
			}
		}
	}
	for _, change := range []func(u *api.Target){
		func(u *api.Target) { *u = api.Target{} }, func(u *api.Target) { u.Samples = largest }, func(u *api.Target) { u.Samples = 8 }, func(u *api.Target) { u.Width = 3 }, func(u *api.Target) { u.Width, u.Height = largest, largest }, func(u *api.Target) { u.Depth = 0 }, func(u *api.Target) { u.Color = nil }, func(u *api.Target) { u.Depths[5] = -1 }, func(u *api.Target) { u.Stencils = nil },
	} {
		wrong := target.Clone(u)
		change(&wrong)
		for sample := range 5 {
			checkNothing(t, p, wrong, good, sample, false)
			checkNothing(t, p, wrong, good, sample, true)
		}
	}
}

// checkNothing checks that a sample has no outcome.
func checkNothing(t *testing.T, p api.Pipeline, u api.Target, f api.Fragment, sample int, discarded bool) {
	t.Helper()
	got, outcome := check(t, p, u, f, sample, api.Vec4{X: one}, discarded)
	if outcome != 0 || !same(got, u) {
		t.Errorf("sample %d of %v has the outcome %d", sample, f, outcome)
	}
	checkFragment(t, p, u, f, api.Vec4{X: one}, discarded)
}

func TestP46_1Name(t *testing.T) {
	for o, want := range map[api.Outcome]string{api.Cleared: "cleared", api.Discarded: "discarded", api.StencilFailed: "stencil", api.DepthFailed: "depth", api.Written: "written", 0: "?", 6: "?", -1: "?", 1 << 32: "?", 1<<32 + 1: "?", largest: "?", smallest: "?"} {
		if got := output.Name(o); got != want {
			t.Errorf("the name of %d is %q, want %q", o, got, want)
		}
	}
}

func TestP46_2Sample(t *testing.T) {
	made := func() api.Target {
		u, _ := target.New(1, 1, 1, api.RGBA8, api.D24S8)
		return target.Store(u, 0, 0, 0, api.Vec4{X: one, Y: one}, 1000000, 5)
	}
	p := tested()
	p.Blend.Mask = 13
	for _, c := range []struct {
		front, discarded bool
		z                int
		outcome          api.Outcome
		color            api.Vec4
		depth, stencil   int
	}{
		{true, false, 16, api.Written, api.Vec4{Y: one, Z: one, W: one}, 4096, 250}, {true, false, one, api.DepthFailed, api.Vec4{X: one, Y: one}, 1000000, 6}, {false, false, 16, api.StencilFailed, api.Vec4{X: one, Y: one}, 1000000, 0}, {true, true, 16, api.Discarded, api.Vec4{X: one, Y: one}, 1000000, 5},
	} {
		f := api.Fragment{Mask: 1, Front: c.front, Depths: []int{c.z}}
		got, outcome := check(t, p, made(), f, 0, api.Vec4{Z: 2 * one, W: one}, c.discarded)
		if outcome != c.outcome || target.Color(got, 0, 0, 0) != c.color || target.Depth(got, 0, 0, 0) != c.depth || target.Stencil(got, 0, 0, 0) != c.stencil {
			t.Errorf("with %+v the target becomes %v, outcome %d", c, got, outcome)
		}
	}
	// Without writing, the depth value is kept.
	p.Depth.Write = false
	if got, _ := check(t, p, made(), api.Fragment{Mask: 1, Front: true, Depths: []int{16}}, 0, api.Vec4{}, false); target.Depth(got, 0, 0, 0) != 1000000 {
		t.Errorf("the depth becomes %d", target.Depth(got, 0, 0, 0))
	}
}

// TestP46_2Formats has a pipeline for another target. The formats of the target count.
func TestP46_2Formats(t *testing.T) {
	p := tested()
	p.Format, p.DepthFormat, p.Samples = api.R8, api.D24S8, 8
	u, _ := target.New(1, 1, 2, api.RGB565, api.D16)
	u = target.Clear(u, api.Vec4{}, one, 0)
	got, outcome := check(t, p, u, api.Fragment{Mask: 3, Depths: []int{one / 2, 3}}, 1, api.Vec4{X: one / 3, Y: one, Z: one}, false)
	if outcome != api.Written || target.Color(got, 0, 0, 1) != (api.Vec4{X: 21141, Y: one, Z: one, W: one}) || target.Depth(got, 0, 0, 1) != 3 || target.Stencil(got, 0, 0, 1) != 0 {
		t.Errorf("the target becomes %v, outcome %d", got, outcome)
	}
	// A texel that is not written keeps its bytes, also if its color has others.
	for _, d := range []api.DepthFormat{api.D16, api.D24S8} {
		u, _ := target.New(1, 1, 1, api.R16F, d)
		u.Color[0].Data[0], u.Color[0].Data[1] = 1, 0xfc
		u.Depths[0] = 3
		p.Stencil.Front.Compare = api.Always
		got, outcome := check(t, p, u, api.Fragment{Mask: 1, Front: true, Depths: []int{one}}, 0, api.Vec4{X: one}, false)
		if outcome != api.DepthFailed || !slices.Equal(got.Color[0].Data, []byte{1, 0xfc}) {
			t.Errorf("the target becomes %v, outcome %d", got, outcome)
		}
	}
}

func TestP46_3Fragment(t *testing.T) {
	u, _ := target.New(2, 2, 4, api.RGBA8, api.D16)
	u = target.Clear(u, api.Vec4{}, one/2, 0)
	f := api.Fragment{X: 1, Y: 1, Mask: 11, Depths: []int{0, one / 4, 0, one}}
	if got := checkFragment(t, tested(), u, f, api.Vec4{X: one}, false); got != 2 {
		t.Errorf("%d samples are written", got)
	}
	got, _ := output.Fragment(tested(), u, f, api.Vec4{X: one}, false)
	for sample, want := range []api.Vec4{{X: one}, {X: one}, {}, {}} {
		if color := target.Color(got, 1, 1, sample); color != want {
			t.Errorf("the color of sample %d is %v", sample, color)
		}
	}
	if got := checkFragment(t, tested(), u, f, api.Vec4{X: one}, true); got != 0 {
		t.Errorf("%d samples of a discarded fragment are written", got)
	}
	f.Mask = 0
	if got := checkFragment(t, tested(), u, f, api.Vec4{X: one}, false); got != 0 {
		t.Errorf("%d samples of an empty fragment are written", got)
	}
}

// TestP46_4Arbitrary compares all functions with their second readings, and checks that other samples are not changed.
func TestP46_4Arbitrary(t *testing.T) {
	s := state(1)
	seen, written := map[api.Outcome]int{}, 0
	for range 6000 {
		p, u := s.pipeline(), s.target()
		f, color, discarded := s.fragment(u), s.color(), s.next(6) == 0
		sample := s.next(u.Samples+1) - s.next(2)*s.next(2)
		got, outcome := check(t, p, u, f, sample, color, discarded)
		seen[outcome]++
		all, _ := output.Fragment(p, u, f, color, discarded)
		for y := range u.Height {
			for x := range u.Width {
				for i := range u.Samples {
					here := x == f.X && y == f.Y && bitOf(f.Mask, i)
					if !here || i != sample {
						checkKept(t, u, got, x, y, i)
					}
					if !here {
						checkKept(t, u, all, x, y, i)
					}
				}
			}
		}
		written += checkFragment(t, p, u, f, color, discarded)
	}
	for _, o := range []api.Outcome{0, api.Discarded, api.StencilFailed, api.DepthFailed, api.Written} {
		if seen[o] < 150 {
			t.Errorf("only %d samples have the outcome %d", seen[o], o)
		}
	}
	if written < 3000 {
		t.Errorf("only %d samples are written", written)
	}
}

// checkKept checks that a sample is the same in two targets.
func checkKept(t *testing.T, a, b api.Target, x, y, sample int) {
	t.Helper()
	if target.Color(a, x, y, sample) != target.Color(b, x, y, sample) || target.Depth(a, x, y, sample) != target.Depth(b, x, y, sample) || target.Stencil(a, x, y, sample) != target.Stencil(b, x, y, sample) {
		t.Fatalf("sample %d of the pixel (%d, %d) was changed", sample, x, y)
	}
}
