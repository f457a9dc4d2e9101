package compiler_test

import (
	"fmt"
	"math"
	"strings"

	"frustum/api"
	"frustum/image"
	"frustum/mipmap"
)

const (
	one  = api.One
	low  = math.MinInt32
	high = math.MaxInt32
)

// state makes arbitrary numbers and texts.
type state struct {
	seed uint64
	// variables is the number of variables that texts have declared.
	variables int
}

func (s *state) next(beyond int) int {
	s.seed = s.seed*6364136223846793005 + 1442695040888963407
	return int(s.seed>>33) % beyond
}

// number returns one of the numbers at which operations change, or an arbitrary one.
func (s *state) number() int {
	list := []int{0, 0, 1, 2, 3, 7, 31, 32, one / 2, one - 1, one, one + 1, 2 * one, 2049 * one, api.MaxValue, api.MaxValue + 1, high, 1 << 31, 1 << 32, 1<<40 + 3, math.MaxInt, math.MinInt}
	n := list[s.next(len(list))]
	switch s.next(4) {
	case 0:
		return -n
	case 1:
		return s.next(1<<31)>>s.next(31) - s.next(1<<31)>>s.next(31)
	}
	return n
}

func (s *state) numbers(count int) []int {
	list := make([]int, count)
	for i := range list {
		list[i] = s.number()
	}
	return list
}

// declarations are those of the modules of the tests. The letters of templates stand for expressions: F, H, I, B, V, W and S are of the types fixed, half, int, bool, vec2, vec4 and Pair.
const declarations = `struct Pair { n: int; v: vec2; b: bool; h: half; } uniform f: fixed; uniform h: half; uniform n: int; uniform b: bool; uniform w: vec4; uniform s: Pair;
	texture tex; buffer buf; in i: fixed; in j: vec4; in k: Pair; in g: half; in t: bool; fn twice(a: fixed) -> fixed { return a + a; } fn pair(a: int, c: vec2) -> Pair { let d: Pair = s; d.n = a; if (d.b) { d.v = c; } return d; }
	out o: fixed; out on: int; out ov: vec2; out ow: vec4; out os: Pair; `

// choices returns the templates of a letter, first those without letters.
func choices(letter rune) []string {
	switch letter {
	case 'F':
		return []string{"f", "i", "o", "1.5", "0.25", "(F + F)", "(F - F)", "(F * F)", "(F / F)", "-F", "V.x", "W.w", "V[I & 1]", "W[I]", "sqrt(F)", "floor(F)", "fract(F)", "dot(V, V)", "mix(F, F, F)", "min(F, F)", "clamp(F, F, F)", "fixed(I)", "fixed(H)", "fixed(B)", "twice(F)", "S.v.y"}
	case 'H':
		return []string{"h", "g", "half(0.5)", "(H + H)", "(H * H)", "half(F)", "abs(H)", "-H", "S.h"}
	case 'I':
		return []string{"n", "on", "7", "1", "(I + I)", "(I * I)", "(I / I)", "(I % I)", "(I & I)", "(I ^ I)", "(I << I)", "(I >> 2)", "!I", "int(F)", "int(B)", "load(buf, I & 3)", "max(I, I)", "S.n"}
	case 'B':
		return []string{"b", "t", "true", "(F < F)", "(I >= I)", "(H <= H)", "(I == I)", "(V != V)", "(B & B)", "(B | B)", "!B", "bool(I)", "S.b"}
	case 'V':
		return []string{"ov", "vec2(1.0, 2.0)", "k.v", "(V + V)", "(V * F)", "vec2(F, F)", "S.v", "mix(V, V, F)", "-V"}
	case 'W':
		return []string{"w", "j", "ow", "(W + W)", "(W / F)", "vec4(V, V)", "vec4(F, V, F)", "sample(tex, V, F)", "fetch(tex, I & 3, I & 3, 0)", "max(W, W)", "-W"}
	case 'S':
		return []string{"s", "k", "os", "pair(I, V)", "Pair(I, V, B, H)"}
	}
	return []string{"o = F;", "on = I;", "ov = V;", "ow = W;", "os = S;", "ov[I & 3] = F;", "ow.z = F;", "os.v.y = F;", "os.b = B;", "let @: int = I;", "let @: Pair = S; @.n = I; os = @;", "if (B) { # }", "if (B) { # # } else { # }", "loop 3 { # if (B) { break; } # }", "loop 5 { if (B) { continue; } # }"}
}

// expand replaces the letters of a template, and "#" by a statement.
func (s *state) expand(template string, depth int) string {
	var text strings.Builder
	s.variables++
	name := fmt.Sprintf("v%d", s.variables)
	for _, letter := range template {
		switch {
		case letter == '@':
			text.WriteString(name)
		case letter == '#' || strings.ContainsRune("FHIBVWS", letter):
			list := choices(letter)
			if depth <= 0 && letter == '#' {
				list = list[:9]
			} else if depth <= 0 {
				list = list[:2]
			}
			text.WriteString(s.expand(list[s.next(len(list))], depth-1))
		default:
			text.WriteRune(letter)
		}
	}
	return text.String()
}

// text returns an arbitrary text of a module that is mostly valid.
func (s *state) text() string {
	stage := s.next(3)
	outputs := []string{"", "", "out oc: vec4; "}[stage]
	special := []string{"", "emit; if (B) { cut; } #", "if (B) { discard; } ow = ddx(j) + ddy(j); ov = vec2(ddx(i), o);"}[stage]
	main := s.expand(strings.Repeat("# ", 1+s.next(5))+special+" #", 3)
	return "shader " + []string{"vertex", "geometry", "fragment"}[stage] + "; " + declarations + outputs + "main { " + main + " }"
}

// resources returns a texture with its sampler, a buffer, and uniforms.
func (s *state) resources() api.Bindings {
	m, _ := image.New(api.RGBA8, 4, 4)
	for i := range m.Data {
		m.Data[i] = byte(37*i + 11)
	}
	texture, _ := mipmap.Chain(m)
	smooth := api.Sampler{AddressU: api.Repeat, AddressV: api.Mirror, Magnify: api.Linear, Minify: api.Nearest, Mipmap: api.Linear, MaxLOD: 8 * one}
	return api.Bindings{Textures: []api.Texture{texture}, Samplers: []api.Sampler{smooth}, Buffers: [][]byte{{1, 0, 0, 0, 255, 255, 255, 255}}, Uniforms: s.numbers(s.next(16))}
}
