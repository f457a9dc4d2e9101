package link_test

import (
	"fmt"
	"math"
	"strings"
	"testing"

	"frustum/api"
	"frustum/link"
	"frustum/parser"
	"frustum/types"
)

// parse returns the module with a text that begins with v:, g: or f: instead of its stage.
func parse(t *testing.T, text string) api.Module {
	t.Helper()
	stage := map[byte]string{'v': "vertex", 'g': "geometry", 'f': "fragment"}[text[0]]
	m, line, code := parser.Parse("shader " + stage + ";" + text[2:] + " main { }")
	if code != api.OK {
		t.Fatalf("the test is wrong: the text %q has error %d in line %d", text, code, line)
	}
	return m
}

func checkCheck(t *testing.T, producer, consumer string, index int, want api.Errno) {
	t.Helper()
	p, c := parse(t, producer), parse(t, consumer)
	before := fmt.Sprint(p, c)
	if got, code := link.Check(p, c); got != index || code != want {
		t.Errorf("%s and %s have index %d and error %d, want %d and %d", producer, consumer, got, code, index, want)
	}
	if fmt.Sprint(p, c) != before {
		t.Error("Check changed its arguments")
	}
}

// The stages of a pipeline that match, as far as they go.
const (
	vertex   = "v: out position: vec4; out uv: vec2; out n: int;"
	geometry = "g: in position0: vec4; in uv0: vec2; in n0: int; in position1: vec4; in uv1: vec2; in n1: int; in position2: vec4; in uv2: vec2; in n2: int; out position: vec4; out uv: vec2; out n: int;"
	fragment = "f: in uv: vec2; in n: int; out color: vec4;"
	// wrong is a module of a fragment shader that types.Check rejects.
	wrong = "f: in uv: vec2; in uv: int; out color: vec4;"
)

func TestP28_2Example(t *testing.T) {
	checkCheck(t, "v: out position: vec4; out uv: vec2;", "f: in uv: vec2; out color: vec4;", -1, api.OK)
}

func TestP28_2Inputs(t *testing.T) {
	for _, c := range []struct {
		producer, consumer string
		index              int
		want               api.Errno
	}{
		{vertex, fragment, -1, api.OK}, {vertex, geometry, -1, api.OK}, {geometry, fragment, -1, api.OK}, {"v: out position: vec4;", "f: out c: vec4;", -1, api.OK}, {"g: out position: vec4;", "f: out c: vec4;", -1, api.OK}, {"v: out position: vec4;", "g: in position0: vec4; in position1: vec4; in position2: vec4;", -1, api.OK},
		{vertex, "f: in uv: vec2; out c: vec4;", 1, api.ErrLink}, {vertex, "f: out c: vec4;", 0, api.ErrLink}, {vertex, "f: in uv: vec2; in n: int; in m: int; out c: vec4;", 2, api.ErrLink}, {vertex, "f: in uv: vec2; in m: int; out c: vec4;", 1, api.ErrLink}, {vertex, "f: in uv: vec3; in n: int; out c: vec4;", 0, api.ErrLink}, {vertex, "f: in n: int; in uv: vec2; out c: vec4;", 0, api.ErrLink}, {vertex, "f: in position: vec4; in uv: vec2; in n: int; out c: vec4;", 0, api.ErrLink}, {"v: out position: vec4;", fragment, 0, api.ErrLink},
		{geometry, "f: in uv: vec2; in n: bool; out c: vec4;", 1, api.ErrLink}, {geometry, "f: out c: vec4;", 0, api.ErrLink}, {vertex, strings.ReplaceAll(geometry, "uv1", "u1"), 4, api.ErrLink}, {vertex, strings.ReplaceAll(geometry, "n2: int", "n2: bool"), 8, api.ErrLink}, {vertex, geometry + " in extra: int;", 9, api.ErrLink}, {vertex, "g: in position0: vec4; in position1: vec4; in position2: vec4;", 1, api.ErrLink}, {vertex, "g:", 0, api.ErrLink}, {vertex, "g: in uv: vec2; in n: int;", 0, api.ErrLink}, {"v: out position: vec4;", "g: in position: vec4;", 0, api.ErrLink}, {"v: out position: vec4; out uv: vec2; out m: int;", geometry, 2, api.ErrLink},
		// Other declarations do not count.
		{vertex + " in a: vec4; uniform b: int;", fragment + " uniform n0: vec4; out other: int; texture t;", -1, api.OK}, {vertex, geometry + " uniform u: int;", -1, api.OK}, {vertex, strings.ReplaceAll(geometry, " out position: vec4;", ""), -1, api.OK}, {vertex, "g: in position0: vec4; in uv0: vec2; in n0: int; in position1: vec4; in uv1: vec2; in n1: int; in position2: vec4; in uv2: vec2; in n2: int;", -1, api.OK},
	} {
		checkCheck(t, c.producer, c.consumer, c.index, c.want)
	}
}

func TestP28_2Structs(t *testing.T) {
	in, out := " in s: S; in n: int; out c: vec4;", " out position: vec4; out s: S; out n: int;"
	for _, c := range []struct {
		producer, consumer string
		index              int
		want               api.Errno
	}{
		{"struct S { a: int; b: vec2; }", "struct S { a: int; b: vec2; }", -1, api.OK}, {"struct S { a: int; }", "struct T { x: int; } struct S { a: int; }", -1, api.OK}, {"struct S { a: int; }", "struct S { b: int; }", 0, api.ErrLink}, {"struct S { a: int; }", "struct S { a: fixed; }", 0, api.ErrLink}, {"struct S { a: int; }", "struct S { a: int; b: int; }", 0, api.ErrLink},
		{"struct T { x: bool; } struct S { t: T; }", "struct T { x: bool; } struct S { t: T; }", -1, api.OK}, {"struct T { x: bool; } struct S { t: T; }", "struct T { x: int; } struct S { t: T; }", 0, api.ErrLink}, {"struct T { x: bool; } struct S { t: T; }", "struct U { x: bool; } struct S { t: U; }", 0, api.ErrLink},
	} {
		checkCheck(t, "v: "+c.producer+out, "f: "+c.consumer+in, c.index, c.want)
		checkCheck(t, "g: "+c.producer+out, "f: "+c.consumer+in, c.index, c.want)
	}
	checkCheck(t, "v: struct S { a: int; } out position: vec4; out s: S;", "g: struct S { a: int; } in position0: vec4; in s0: S; in position1: vec4; in s1: S; in position2: vec4; in s2: S;", -1, api.OK)
	checkCheck(t, "v: struct S { a: int; } out position: vec4; out s: S;", "g: struct S { a: bool; } in position0: vec4; in s0: S; in position1: vec4; in s1: S; in position2: vec4; in s2: S;", 1, api.ErrLink)
	checkCheck(t, "v: struct S { a: int; } out position: vec4; out n: int;", "f: in n: int; out c: vec4;", -1, api.OK)
}

// TestP28_2Errors has errors before the comparison of inputs, also several at once.
func TestP28_2Errors(t *testing.T) {
	for _, c := range []struct {
		producer, consumer string
		want               api.Errno
	}{
		{wrong, fragment, api.ErrShader}, {vertex, wrong, api.ErrShader}, {"v: out x: S;", wrong, api.ErrShader}, {wrong, vertex, api.ErrShader}, {"v: out position: vec4; out position: vec4;", geometry, api.ErrShader}, {vertex, geometry + " out uv: int;", api.ErrShader},
		{vertex, vertex, api.ErrKind}, {geometry, vertex, api.ErrKind}, {geometry, geometry, api.ErrKind}, {fragment, vertex, api.ErrKind}, {fragment, geometry, api.ErrKind}, {fragment, fragment, api.ErrKind}, {"v:", "v:", api.ErrKind}, {"f:", "f:", api.ErrKind},
		{"v:", fragment, api.ErrLink}, {"g:", fragment, api.ErrLink}, {"v:", "g:", api.ErrLink}, {"v: out pos: vec4; out uv: vec2; out n: int;", fragment, api.ErrLink}, {"v: out position: vec3; out uv: vec2; out n: int;", fragment, api.ErrLink}, {"v: out uv: vec2; out position: vec4; out n: int;", fragment, api.ErrLink}, {"v: struct P { p: vec4; } out position: P;", "f: out c: vec4;", api.ErrLink}, {"v: out Position: vec4;", "f: out c: vec4;", api.ErrLink}, {"g: out p: vec4;", "f: out c: vec4;", api.ErrLink},
		{vertex, "f: in uv: vec2; in n: int;", api.ErrLink}, {vertex, "f: in uv: vec2; in n: int; out c: vec3;", api.ErrLink}, {vertex, "f: in uv: vec2; in n: int; out d: fixed; out c: vec4;", api.ErrLink}, {vertex, "f: out d: fixed;", api.ErrLink}, {geometry, "f:", api.ErrLink}, {"v:", "f:", api.ErrLink},
	} {
		checkCheck(t, c.producer, c.consumer, -1, c.want)
	}
	// Stages that do not exist are errors of the shaders.
	for _, stage := range []api.Stage{0, 4, -1, math.MinInt, math.MaxInt} {
		for _, other := range []string{vertex, geometry, fragment, wrong} {
			for _, pair := range [][2]api.Module{{{Stage: stage}, parse(t, other)}, {parse(t, other), {Stage: stage}}} {
				if i, code := link.Check(pair[0], pair[1]); i != -1 || code != api.ErrShader {
					t.Errorf("stage %d and %s have index %d and error %d", stage, other, i, code)
				}
			}
		}
	}
	// The name of the type of an output makes it another type, which types.Check rejects.
	m := parse(t, vertex)
	m.Outputs[0].Type.Name = "x"
	if i, code := link.Check(m, parse(t, fragment)); i != -1 || code != api.ErrShader {
		t.Errorf("a vec4 with a name has index %d and error %d", i, code)
	}
}

func TestP28_3Pipeline(t *testing.T) {
	noLink := "f: in uv: vec3; out c: vec4;"
	for _, c := range []struct {
		vertex, geometry, fragment string
		with, without              api.Errno
	}{
		{vertex, geometry, fragment, api.OK, api.OK}, {vertex, vertex, fragment, api.ErrKind, api.OK}, {vertex, fragment, fragment, api.ErrKind, api.OK}, {geometry, geometry, fragment, api.ErrKind, api.ErrKind}, {fragment, geometry, fragment, api.ErrKind, api.ErrKind}, {vertex, geometry, vertex, api.ErrKind, api.ErrKind}, {vertex, geometry, geometry, api.ErrKind, api.ErrKind}, {fragment, geometry, vertex, api.ErrKind, api.ErrKind},
		{vertex, geometry, noLink, api.ErrLink, api.ErrLink}, {vertex, "g:", fragment, api.ErrLink, api.OK}, {"v:", geometry, fragment, api.ErrLink, api.ErrLink}, {"v: out position: vec4;", geometry, fragment, api.ErrLink, api.ErrLink},
		{vertex, strings.ReplaceAll(geometry, "out uv: vec2;", ""), fragment, api.ErrLink, api.OK}, {vertex, strings.ReplaceAll(geometry, "out position: vec4; out uv: vec2; out n: int;", "out position: vec4;"), "f: out c: vec4;", api.OK, api.ErrLink}, {"v: out position: vec4;", "g: in position0: vec4; in position1: vec4; in position2: vec4; out position: vec4; out uv: vec2; out n: int;", fragment, api.OK, api.ErrLink},
		{vertex, geometry, wrong, api.ErrShader, api.ErrShader}, {"v: in a: S; out position: vec4;", geometry, fragment, api.ErrShader, api.ErrShader}, {vertex, "g: in a: S;", fragment, api.ErrShader, api.OK},
		// Of several errors, the stages come first, then the vertex shader with the one behind it.
		{vertex, "g: in a: S;", geometry, api.ErrKind, api.ErrKind}, {"v: in a: S;", fragment, wrong, api.ErrKind, api.ErrShader}, {"v:", geometry, wrong, api.ErrLink, api.ErrShader}, {vertex, "g:", wrong, api.ErrLink, api.ErrShader}, {"v:", "g: in a: S;", noLink, api.ErrShader, api.ErrLink},
	} {
		v, g, f := parse(t, c.vertex), parse(t, c.geometry), parse(t, c.fragment)
		before := fmt.Sprint(v, g, f)
		if got := link.Pipeline(v, g, f, true); got != c.with {
			t.Errorf("%s, %s and %s have error %d, want %d", c.vertex, c.geometry, c.fragment, got, c.with)
		}
		if got := link.Pipeline(v, g, f, false); got != c.without {
			t.Errorf("%s and %s without a geometry shader have error %d, want %d", c.vertex, c.fragment, got, c.without)
		}
		if got := link.Pipeline(v, api.Module{}, f, false); got != c.without {
			t.Errorf("%s and %s with a zero module have error %d, want %d", c.vertex, c.fragment, got, c.without)
		}
		if fmt.Sprint(v, g, f) != before {
			t.Error("Pipeline changed its arguments")
		}
	}
	if got := link.Pipeline(api.Module{}, api.Module{}, api.Module{}, true); got != api.ErrKind {
		t.Errorf("zero modules have error %d", got)
	}
}

// TestP28_4Arbitrary compares Check with the rules of P28.2, one after the other, and counts the components of linked stages.
func TestP28_4Arbitrary(t *testing.T) {
	s := state(2)
	fields := func(word, suffix string, begin int) string {
		text := ""
		for i := begin; i < 3; i++ {
			text += fmt.Sprintf(" %s %c%s: %s;", word, 'a'+i, suffix, []string{"int", "vec2", "S"}[(i+s.next(16)/15)%3])
		}
		return text
	}
	counts := map[api.Errno]int{}
	for range 6000 {
		declared := func() string { return []string{"struct S { x: half; }", "struct S { y: half; }"}[s.next(8)/7] }
		position := []string{" out position: vec4;", " out position: vec3;", " out pos: vec4;", ""}[max(0, s.next(16)-12)]
		begin := s.next(4)
		producer := []string{"v: ", "g: "}[s.next(2)] + declared() + position + fields("out", "", begin)
		consumer := "f: " + declared() + fields("in", "", begin) + []string{" out color: vec4;", " out color: vec2;", ""}[max(0, s.next(12)-9)]
		if s.next(2) == 0 {
			producer = "v" + producer[1:]
			consumer = "g: " + declared()
			for _, digit := range []string{"0", "1", "2"} {
				consumer += " in position" + digit + ": vec4;" + fields("in", digit, begin)
			}
		}
		switch s.next(20) {
		case 0:
			consumer += " in wrong: T;"
		case 1:
			producer += " out wrong: T;"
		case 2:
			producer = "vgf"[s.next(3):][:1] + producer[1:]
		}
		p, c := parse(t, producer), parse(t, consumer)
		index, want := expectedCheck(p, c)
		counts[want]++
		i, code := link.Check(p, c)
		if i != index || code != want {
			t.Fatalf("%s and %s have index %d and error %d, want %d and %d", producer, consumer, i, code, index, want)
		}
		if code == api.OK && c.Stage == api.FragmentStage && types.Total(c, c.Inputs) != types.Total(p, p.Outputs)-4 {
			t.Fatalf("%s and %s are linked", producer, consumer)
		}
		if code == api.OK && c.Stage == api.GeometryStage && types.Total(c, c.Inputs) != 3*types.Total(p, p.Outputs) {
			t.Fatalf("%s and %s are linked", producer, consumer)
		}
	}
	if counts[api.OK] < 500 || counts[api.ErrLink] < 500 || counts[api.ErrShader] < 100 || counts[api.ErrKind] < 100 {
		t.Errorf("the errors are %v", counts)
	}
}

func expectedCheck(p, c api.Module) (int, api.Errno) {
	if types.Check(p) != 0 || types.Check(c) != 0 {
		return -1, api.ErrShader
	}
	if p.Stage >= c.Stage {
		return -1, api.ErrKind
	}
	if len(p.Outputs) == 0 || p.Outputs[0].Name != "position" || p.Outputs[0].Type.Kind != api.Vec4Type {
		return -1, api.ErrLink
	}
	have := p.Outputs[1:]
	if c.Stage == api.FragmentStage && (len(c.Outputs) == 0 || c.Outputs[0].Type.Kind != api.Vec4Type) {
		return -1, api.ErrLink
	}
	if c.Stage == api.GeometryStage {
		have = nil
		for i := range 3 * len(p.Outputs) {
			f := p.Outputs[i%len(p.Outputs)]
			have = append(have, field(fmt.Sprint(f.Name, i/len(p.Outputs)), f.Type.Kind, f.Type.Name))
		}
	}
	if i := second(p, c, have, c.Inputs, 0); i >= 0 {
		return i, api.ErrLink
	}
	return -1, api.OK
}
