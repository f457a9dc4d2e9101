package interpreter_test

import (
	"fmt"
	"math"
	"slices"
	"testing"

	"frustum/api"
	"frustum/fixed"
	"frustum/image"
	"frustum/interpreter"
	"frustum/mipmap"
	"frustum/sampler"
)

// argTypes tells, rule by rule, the types of the arguments of a built-in function of numbers whose first one has a type, or nothing if there are none.
func argTypes(name string, t api.Type) []api.Type {
	number := slices.Contains([]api.Type{fixedType, halfType, intType, vec2Type, vec3Type, vec4Type}, t)
	switch {
	case number && (name == "min" || name == "max"):
		return []api.Type{t, t}
	case number && name == "clamp":
		return []api.Type{t, t, t}
	case number && name == "abs", t == fixedType && (name == "floor" || name == "fract" || name == "sqrt"):
		return []api.Type{t}
	case isVector(t) && name == "dot":
		return []api.Type{t, t}
	case (isVector(t) || t == fixedType) && name == "mix":
		return []api.Type{t, t, fixedType}
	}
	return nil
}

// expectedCall is a second reading of P21.2 for arguments with the right numbers of components.
func expectedCall(name string, t api.Type, args [][]int) []int {
	if name == "dot" {
		sum := fixed.Mul(args[0][0], args[1][0])
		for i := 1; i < size(t); i++ {
			sum = fixed.Add(sum, fixed.Mul(args[0][i], args[1][i]))
		}
		return []int{sum}
	}
	var result []int
	for i := range size(t) {
		var x []int
		for _, arg := range args[:min(2, len(args))] {
			x = append(x, ready(t, arg[i]))
		}
		var n int
		switch name {
		case "min":
			n = slices.Min(x)
		case "max":
			n = slices.Max(x)
		case "clamp":
			n = min(max(x[0], x[1]), ready(t, args[2][i]))
		case "abs":
			n = x[0]
			if n < 0 {
				n = expectedUnary(api.OpNegate, t, []int{n})[0]
			}
		case "floor":
			n = fixed.Floor(x[0])
		case "fract":
			n = fixed.Fract(x[0])
		case "sqrt":
			n = fixed.Sqrt(x[0])
		case "mix":
			n = fixed.Lerp(x[0], x[1], args[2][0])
		}
		if t == halfType {
			n = half(n)
		}
		result = append(result, n)
	}
	return result
}

func checkCall(t *testing.T, name string, of api.Type, args [][]int, want []int) {
	t.Helper()
	var before [][]int
	for _, arg := range args {
		before = append(before, slices.Clone(arg))
	}
	got := interpreter.Call(name, of, args)
	checkList(t, fmt.Sprintf("%s of %v %v", name, of, args), got, want)
	for i := range got {
		got[i]++
	}
	if !slices.EqualFunc(args, before, slices.Equal) {
		t.Errorf("%s of %v changed its arguments, or its value shares memory with them", name, of)
	}
}

func functionNames() []string {
	return []string{"min", "max", "clamp", "abs", "floor", "fract", "sqrt", "dot", "mix"}
}

func TestP21_2Table(t *testing.T) {
	for _, c := range []struct {
		name string
		of   api.Type
		args [][]int
		want []int
	}{
		{"min", fixedType, [][]int{{3}, {2}}, []int{2}}, {"max", fixedType, [][]int{{3}, {2}}, []int{3}}, {"min", fixedType, [][]int{{maxValue + 9}, {maxValue + 10}}, []int{maxValue}}, {"max", fixedType, [][]int{{-maxValue - 9}, {math.MinInt}}, []int{-maxValue}},
		{"min", halfType, [][]int{{2049 * one}, {2051 * one}}, []int{2048 * one}}, {"max", halfType, [][]int{{2049 * one}, {2051 * one}}, []int{2052 * one}}, {"max", halfType, [][]int{{math.MaxInt}, {0}}, []int{maxValue}},
		{"min", intType, [][]int{{1 << 31}, {0}}, []int{-1 << 31}}, {"max", intType, [][]int{{1 << 32}, {-1}}, []int{0}}, {"min", intType, [][]int{{maxValue + 5}, {maxValue + 6}}, []int{maxValue + 5}},
		{"min", vec2Type, [][]int{{1, 5}, {2, 4}}, []int{1, 4}}, {"max", vec4Type, [][]int{{1, 5, -1, 0}, {2, 4, -2, 0}}, []int{2, 5, -1, 0}},
		{"clamp", fixedType, [][]int{{5}, {0}, {3}}, []int{3}}, {"clamp", fixedType, [][]int{{-5}, {0}, {3}}, []int{0}}, {"clamp", fixedType, [][]int{{2}, {0}, {3}}, []int{2}}, {"clamp", fixedType, [][]int{{2}, {5}, {3}}, []int{3}}, {"clamp", fixedType, [][]int{{9}, {5}, {3}}, []int{3}}, {"clamp", intType, [][]int{{1 << 31}, {-5}, {5}}, []int{-5}}, {"clamp", halfType, [][]int{{2049 * one}, {0}, {3000 * one}}, []int{2048 * one}}, {"clamp", vec3Type, [][]int{{1, 2, 3}, {2, 0, 0}, {4, 1, 9}}, []int{2, 1, 3}},
		{"abs", fixedType, [][]int{{-7}}, []int{7}}, {"abs", fixedType, [][]int{{7}}, []int{7}}, {"abs", fixedType, [][]int{{math.MinInt}}, []int{maxValue}}, {"abs", fixedType, [][]int{{math.MaxInt}}, []int{maxValue}}, {"abs", intType, [][]int{{-7}}, []int{7}}, {"abs", intType, [][]int{{-1 << 31}}, []int{-1 << 31}}, {"abs", intType, [][]int{{-maxValue - 9}}, []int{maxValue + 9}}, {"abs", intType, [][]int{{1<<32 - 1}}, []int{1}}, {"abs", halfType, [][]int{{-2049 * one}}, []int{2048 * one}}, {"abs", halfType, [][]int{{2049 * one}}, []int{2048 * one}}, {"abs", vec3Type, [][]int{{-1, 2, -3}}, []int{1, 2, 3}},
		{"floor", fixedType, [][]int{{one + 5}}, []int{one}}, {"floor", fixedType, [][]int{{-1}}, []int{-one}}, {"floor", fixedType, [][]int{{math.MinInt}}, []int{-maxValue}}, {"fract", fixedType, [][]int{{one + 5}}, []int{5}}, {"fract", fixedType, [][]int{{-1}}, []int{one - 1}}, {"sqrt", fixedType, [][]int{{4 * one}}, []int{2 * one}}, {"sqrt", fixedType, [][]int{{-1}}, []int{0}}, {"sqrt", fixedType, [][]int{{math.MaxInt}}, []int{5931641}},
		{"dot", vec2Type, [][]int{{one, 2 * one}, {3 * one, 4 * one}}, []int{11 * one}}, {"dot", vec3Type, [][]int{{1, 1, 1}, {one / 2, one / 2, one / 2}}, []int{3}}, {"dot", vec4Type, [][]int{{math.MaxInt, -one, 0, 0}, {one, one, 0, 0}}, []int{maxValue - one}},
		// The sum is saturated in between, from left to right.
		{"dot", vec3Type, [][]int{{maxValue, maxValue, -maxValue}, {one, one, one}}, []int{0}}, {"dot", vec3Type, [][]int{{maxValue, -maxValue, maxValue}, {one, one, one}}, []int{maxValue}},
		{"mix", fixedType, [][]int{{0}, {one}, {one / 4}}, []int{one / 4}}, {"mix", fixedType, [][]int{{0}, {one}, {2 * one}}, []int{one}}, {"mix", fixedType, [][]int{{5}, {one}, {-1}}, []int{5}}, {"mix", fixedType, [][]int{{5}, {one}, {math.MinInt}}, []int{5}}, {"mix", vec2Type, [][]int{{0, one}, {one, 3 * one}, {one / 2}}, []int{one / 2, 2 * one}}, {"mix", vec4Type, [][]int{{0, 0, 0, 0}, {8, 16, -8, math.MaxInt}, {one}}, []int{8, 16, -8, maxValue}},
	} {
		checkCall(t, c.name, c.of, c.args, c.want)
	}
}

func TestP21_2Call(t *testing.T) {
	state := uint64(3)
	for _, name := range functionNames() {
		for _, of := range simpleTypes() {
			args := argTypes(name, of)
			for range 300 {
				var lists [][]int
				for _, u := range args {
					lists = append(lists, values(&state, size(u)))
				}
				if args != nil {
					checkCall(t, name, of, lists, expectedCall(name, of, lists))
				}
			}
			checkWrongArguments(t, name, of, args)
		}
		for _, of := range []api.Type{structType("S"), structType(""), {}, {Kind: 9}, {Kind: -1}, {Kind: math.MinInt}} {
			checkWrongArguments(t, name, of, nil)
		}
	}
	for _, of := range simpleTypes() {
		for _, name := range []string{"", "x", "Min", "min ", "sample", "fetch", "load", "ddx", "ddy", "fixed", "half", "int", "bool", "vec2", "vec4", "S", "+"} {
			checkWrongArguments(t, name, of, nil)
		}
	}
}

// checkWrongArguments calls a function with up to 5 arguments of up to 4 components, without those that it takes.
func checkWrongArguments(t *testing.T, name string, of api.Type, taken []api.Type) {
	t.Helper()
	var right []int
	for _, u := range taken {
		right = append(right, size(u))
	}
	for count := range 6 {
		for common := range 6 {
			for last := range 6 {
				sizes := slices.Repeat([]int{common}, count)
				if count > 0 {
					sizes[count-1] = last
				}
				var args [][]int
				for _, n := range sizes {
					args = append(args, make([]int, n))
				}
				if taken == nil || !slices.Equal(sizes, right) {
					checkCall(t, name, of, args, nil)
				}
			}
		}
	}
	checkCall(t, name, of, make([][]int, 100), nil)
}

// TestP21_2Telling gives all telling numbers to the functions of one and two numbers.
func TestP21_2Telling(t *testing.T) {
	for _, of := range []api.Type{fixedType, halfType, intType} {
		for _, a := range telling() {
			for _, name := range []string{"abs", "floor", "fract", "sqrt"} {
				if argTypes(name, of) != nil {
					checkCall(t, name, of, [][]int{{a}}, expectedCall(name, of, [][]int{{a}}))
				}
			}
			for _, b := range telling() {
				for _, name := range []string{"min", "max"} {
					checkCall(t, name, of, [][]int{{a}, {b}}, expectedCall(name, of, [][]int{{a}, {b}}))
				}
			}
		}
	}
}

// picture returns an image in which each texel is different.
func picture(f api.TexelFormat, width, height int) api.Image {
	m, _ := image.New(f, width, height)
	for i := range m.Data {
		m.Data[i] = byte(37*i + 11)
	}
	return m
}

// resources returns textures, samplers and buffers, of which some do not belong together.
func resources() api.Bindings {
	first, _ := mipmap.Chain(picture(api.RGBA8, 4, 2))
	second, _ := mipmap.Chain(picture(api.RGBA16F, 3, 3))
	smooth := api.Sampler{AddressU: api.Repeat, AddressV: api.Mirror, Magnify: api.Linear, Minify: api.Nearest, Mipmap: api.Linear, MaxLOD: 8 * one}
	rough := api.Sampler{AddressU: api.ClampBorder, AddressV: api.ClampToEdge, Magnify: api.Nearest, Minify: api.Linear, Mipmap: api.Nearest, MaxLOD: 8 * one, Border: api.Vec4{X: 1, Y: 2, Z: 3, W: 4}}
	return api.Bindings{
		Textures: []api.Texture{first, second, {}, first},
		Samplers: []api.Sampler{smooth, rough, smooth},
		Buffers:  [][]byte{{1, 0, 0, 0, 255, 255, 255, 255, 9}, nil, {0, 0, 0, 128, 7, 7, 7, 127}},
	}
}

func TestP21_3Texel(t *testing.T) {
	b := resources()
	seen := map[api.Vec4]bool{}
	for _, texture := range []int{math.MinInt, -2, -1, 0, 1, 2, 3, 4, 5, 1 << 32, math.MaxInt} {
		for _, u := range []int{math.MinInt, -one, -1, 0, 1, one / 3, one, math.MaxInt} {
			for _, v := range []int{math.MinInt, -one - 7, 0, one / 7, one, 5*one + 1, math.MaxInt} {
				for _, lod := range []int{math.MinInt, -one, 0, 1, one / 2, one, 3 * one, math.MaxInt} {
					want := api.Vec4{}
					if texture >= 0 && texture < 3 {
						want = sampler.Sample(b.Textures[texture], b.Samplers[texture], u, v, lod)
					}
					seen[want] = true
					if got := interpreter.Texel(b, texture, u, v, lod); got != want {
						t.Errorf("texture %d at %d %d %d is %v, want %v", texture, u, v, lod, got, want)
					}
				}
			}
		}
	}
	if len(seen) < 20 {
		t.Errorf("there are only %d colors", len(seen))
	}
	// There are more samplers than textures, or none.
	for _, b := range []api.Bindings{{Samplers: b.Samplers}, {Textures: b.Textures}, {}} {
		for texture := range 4 {
			if got := interpreter.Texel(b, texture, 0, 0, 0); got != (api.Vec4{}) {
				t.Errorf("without a texture or a sampler the color is %v", got)
			}
		}
	}
	// A sampler that is not valid.
	b.Samplers[0].MaxLOD = -1
	if got := interpreter.Texel(b, 0, 0, 0, 0); got != (api.Vec4{}) {
		t.Errorf("with a wrong sampler the color is %v", got)
	}
}

func TestP21_3FetchTexel(t *testing.T) {
	b := resources()
	for _, texture := range []int{math.MinInt, -1, 0, 1, 2, 3, 4, 1 << 32, math.MaxInt} {
		for _, x := range []int{math.MinInt, -1, 0, 1, 2, 3, 4, math.MaxInt} {
			for _, y := range []int{math.MinInt, -1, 0, 1, 2, 3, math.MaxInt} {
				for _, level := range []int{math.MinInt, -1, 0, 1, 2, 3, math.MaxInt} {
					want := api.Vec4{}
					if texture >= 0 && texture < 4 {
						want = mipmap.Get(b.Textures[texture], x, y, level)
					}
					// A texel needs no sampler.
					for _, samplers := range [][]api.Sampler{b.Samplers, nil} {
						if got := interpreter.FetchTexel(api.Bindings{Textures: b.Textures, Samplers: samplers}, texture, x, y, level); got != want {
							t.Errorf("texel %d %d of level %d of texture %d is %v, want %v", x, y, level, texture, got, want)
						}
					}
				}
			}
		}
	}
	if got := interpreter.FetchTexel(b, 0, 1, 1, 0); got == (api.Vec4{}) {
		t.Error("a texel has no color")
	}
	if got := interpreter.FetchTexel(api.Bindings{}, 0, 0, 0, 0); got != (api.Vec4{}) {
		t.Errorf("without textures a texel is %v", got)
	}
}

func TestP21_3LoadWord(t *testing.T) {
	b := resources()
	for _, c := range []struct{ buffer, index, want int }{
		{0, 0, 1}, {0, 1, -1}, {0, 2, 0}, {0, 3, 0}, {0, -1, 0}, {0, math.MinInt, 0}, {0, math.MaxInt, 0}, {0, 1 << 62, 0},
		{1, 0, 0}, {1, -1, 0}, {2, 0, -1 << 31}, {2, 1, 0x7f070707}, {2, 2, 0}, {3, 0, 0}, {-1, 0, 0}, {-1, 1, 0}, {math.MinInt, 0, 0}, {math.MaxInt, 0, 0}, {1 << 32, 0, 0},
	} {
		if got := interpreter.LoadWord(b, c.buffer, c.index); got != c.want {
			t.Errorf("word %d of buffer %d is %d, want %d", c.index, c.buffer, got, c.want)
		}
	}
	if got := interpreter.LoadWord(api.Bindings{}, 0, 0); got != 0 {
		t.Errorf("without buffers a word is %d", got)
	}
}
