package console_test

import (
	"fmt"
	"math"
	"strings"
	"testing"

	"frustum/api"
	"frustum/compiler"
	"frustum/console"
	"frustum/device"
	"frustum/format"
	"frustum/image"
	"frustum/mipmap"
	"frustum/pipeline"
	"frustum/target"
)

const (
	one      = api.One
	largest  = math.MaxInt
	smallest = math.MinInt
)

// step is a line with its output.
type step struct{ line, want string }

// run executes lines on a console.
func run(t *testing.T, c *console.Console, steps []step) {
	t.Helper()
	for _, s := range steps {
		if got := c.Execute(s.line); got != s.want {
			t.Errorf("the output of %.200q is %q, want %q", s.line, got, s.want)
		}
	}
}

func TestP54_1Example(t *testing.T) {
	run(t, console.New(), []step{{"target 0 8 8 1 2 1", "ok\n"}, {"color 0 0 0 0", "0 0 0 0\n"}})
}

func TestP54_1Syntax(t *testing.T) {
	c := console.New()
	before := c.Device().Hash()
	for _, line := range []string{" ", "  ", "submit ", " submit", "check  ", "target  0 8 8 1 2 1", "x", "Submit", "submit\n", "\t", "check\t", "\x00", "\xff", "check \x7f", "check\r", "ok", "error", "targets", "resolve 0 1", "draw 0 3", "?"} {
		run(t, c, []step{{line, "error 25\n"}})
	}
	run(t, c, []step{{"", ""}})
	if c.Device().Hash() != before {
		t.Error("a wrong line changed the device")
	}
}

// lengths returns the number of fields behind the names of the commands; more is whether there can be more.
func lengths() map[string]struct {
	count   int
	more    bool
	numbers bool
} {
	type length = struct {
		count   int
		more    bool
		numbers bool
	}
	return map[string]length{"buffer": {1, true, true}, "texture": {8, false, true}, "target": {6, false, true}, "vertex": {1, true, false}, "fragment": {1, true, false}, "attribute": {4, false, true}, "attributes": {0, false, true}, "pipeline": {8, false, true}, "queue": {1, true, false}, "submit": {0, false, true}, "shuffle": {2, false, true}, "clear": {0, false, true}, "color": {4, false, true}, "depth": {4, false, true}, "query": {1, false, true}, "hash": {0, false, true}, "history": {3, false, true}, "check": {0, false, true}}
}

// TestP54_1Fields has each command with each number of fields, and with words that are no numbers in each place.
func TestP54_1Fields(t *testing.T) {
	for name, l := range lengths() {
		for count := range 12 {
			good := count == l.count || l.more && count > l.count
			fields := append([]string{name}, strings.Fields(strings.Repeat("1 ", count))...)
			got := console.New().Execute(strings.Join(fields, " "))
			if (got == "error 25\n") == good {
				t.Errorf("the output of %v is %q", fields, got)
			}
			for i := range count {
				for _, word := range []string{"x", "01", "-0", "+1", "1.0", "4611686018427387905", "-4611686018427387905", "99999999999999999999", "0x1", "-"} {
					wrong := append([]string{}, fields...)
					wrong[i+1] = word
					got := console.New().Execute(strings.Join(wrong, " "))
					if l.numbers && got != "error 25\n" || good && !l.numbers && got == "error 25\n" {
						t.Errorf("the output of %v is %q", wrong, got)
					}
				}
			}
		}
	}
	// The ends of the range of numbers are numbers.
	for _, n := range []string{"4611686018427387904", "-4611686018427387904"} {
		run(t, console.New(), []step{{"query " + n, "error 8\n"}, {"color " + n + " 0 0 0", "error 8\n"}, {"buffer " + n, "error 6\n"}, {"buffer 0 " + n, "error 6\n"}, {"history " + n + " 0 0", "error 6\n"}})
	}
}

func TestP54_1Buffer(t *testing.T) {
	c := console.New()
	run(t, c, []step{{"buffer 0", "ok\n"}, {"buffer 7 0 255 7", "ok\n"}, {"buffer 3 1", "ok\n"}, {"buffer 3 256", "error 6\n"}, {"buffer 3 -1", "error 6\n"}, {"buffer 3 1 2 300", "error 6\n"}, {"buffer 8", "error 6\n"}, {"buffer -1 5", "error 6\n"}, {"buffer 0" + strings.Repeat(" 9", 65536), "ok\n"}, {"buffer 0" + strings.Repeat(" 9", 65537), "error 5\n"}, {"buffer 0" + strings.Repeat(" 9", 65537) + " 256", "error 6\n"}, {"buffer 9" + strings.Repeat(" 9", 65537), "error 6\n"}})
	if a, b, n := fmt.Sprint(c.Device().Buffer(7)), fmt.Sprint(c.Device().Buffer(3)), len(c.Device().Buffer(0)); a != "[0 255 7]" || b != "[1]" || n != 65536 {
		t.Errorf("the buffers are %s, %s and one of %d bytes", a, b, n)
	}
}

func TestP54_1Texture(t *testing.T) {
	c := console.New()
	run(t, c, []step{{"texture 2 4 3 2 65536 0 32768 99999", "ok\n"}, {"texture 0 0 3 2 1 1 1 1", "error 15\n"}, {"texture 0 65 3 2 1 1 1 1", "error 15\n"}, {"texture 0 3 -1 2 1 1 1 1", "error 15\n"}, {"texture 0 0 3 0 1 1 1 1", "error 14\n"}, {"texture 9 3 3 7 1 1 1 1", "error 14\n"}, {"texture 8 3 3 1 1 1 1 1", "error 6\n"}, {"texture 9 65 3 1 1 1 1 1", "error 15\n"}})
	m, _ := image.New(api.RGBA8, 4, 3)
	want, _ := mipmap.Chain(image.Fill(m, api.Vec4{X: one, Z: one / 2, W: 99999}))
	if got, found := c.Device().Texture(2); !found || !mipmap.Equal(got, want) {
		t.Errorf("the texture is %v, want %v", got, want)
	}
	for f := 1; f <= 6; f++ {
		run(t, c, []step{{fmt.Sprintf("texture 1 64 1 %d 0 65536 -5 0", f), "ok\n"}})
		if got, _ := c.Device().Texture(1); got.Levels[0].Format != api.TexelFormat(f) || len(got.Levels) != 7 {
			t.Errorf("the texture has the format %d", got.Levels[0].Format)
		}
	}
}

func TestP54_1Target(t *testing.T) {
	c := console.New()
	run(t, c, []step{{"target 1 5 4 8 6 3", "ok\n"}, {"target 1 5 4 3 6 3", "error 11\n"}, {"target 1 0 4 3 6 3", "error 15\n"}, {"target 1 0 4 3 7 3", "error 14\n"}, {"target 1 5 4 8 6 4", "error 14\n"}, {"target 8 5 4 8 6 3", "error 6\n"}, {"target 8 5 65 8 6 3", "error 15\n"}, {"target 8 5 4 0 6 3", "error 11\n"}})
	want, _ := target.New(5, 4, 8, api.RGBA16F, api.D24S8)
	if got, found := c.Device().Target(1); !found || !target.Equal(got, want) {
		t.Errorf("the target is %v", got)
	}
}

const (
	vertexText   = "shader vertex; uniform k: fixed; in a: vec4; out o: vec4; out c: fixed; main { o = a * k; c = a.x; }"
	fragmentText = "shader fragment; in c: fixed; out o: vec4; main { o = vec4(c, 1.0, c, 1.0); }"
)

func TestP54_1Programs(t *testing.T) {
	c := console.New()
	for name, text := range map[string]string{"vertex": vertexText, "fragment": fragmentText} {
		p, _, code := compiler.Compile(text, 256)
		if code != api.OK {
			t.Fatalf("the test is wrong: %s has error %d", text, code)
		}
		run(t, c, []step{{name + " " + text, fmt.Sprintf("program %d %d\n", p.Registers, len(p.Code))}})
	}
	run(t, c, []step{{"attribute 0 0 16 4", "ok\n"}, {"pipeline 0 8 8 1 2 1 1 0", "ok\n"}})
	p, _ := c.Device().Pipeline(0)
	vertex, _, _ := compiler.Compile(vertexText, 256)
	fragment, _, _ := compiler.Compile(fragmentText, 256)
	want := pipeline.Default()
	want.Vertex, want.Fragment, want.Viewport.Width, want.Viewport.Height = vertex, fragment, 8, 8
	if !pipeline.Equal(p, want) {
		t.Errorf("the pipeline is %+v", p)
	}
	// A program with an error, or of another stage, replaces nothing.
	many := "shader vertex; in a: vec4; in b: vec4; in c: vec4; in d: vec4; out o: vec4; main { o = a + b + c + d; }"
	run(t, c, []step{{"vertex " + fragmentText, "error 10\n"}, {"fragment " + vertexText, "error 10\n"}, {"vertex shader geometry; out o: vec4; main { }", "error 10\n"}, {"vertex x", "error 3\n"}, {"vertex shader vertex; main { x = 1; }", "error 13\n"}, {"fragment shader vertex; main { x = 1; }", "error 13\n"}, {"fragment shader fragment; out o: fixed; main { o = 1; }", "error 12\n"}, {"pipeline 1 8 8 1 2 1 1 0", "ok\n"}, {"vertex " + many, "program 9 32\n"}})
	if q, _ := c.Device().Pipeline(1); !pipeline.Equal(q, p) {
		t.Errorf("the pipeline becomes %+v", q)
	}
	run(t, c, []step{{"pipeline 1 8 8 1 2 1 1 0", "error 11\n"}})
}

// TestP54_1Registers has a module that needs more than 256 registers.
func TestP54_1Registers(t *testing.T) {
	var text strings.Builder
	text.WriteString("shader vertex; in a: vec4; out o: vec4; main {")
	for i := range 100 {
		fmt.Fprintf(&text, " let v%d: vec4 = a;", i)
	}
	text.WriteString(" o = v0; }")
	_, _, code := compiler.Compile(text.String(), 256)
	run(t, console.New(), []step{{"vertex " + text.String(), outputOf(code, "")}})
	list := make([]string, 80)
	for i := range list {
		list[i] = fmt.Sprintf("in a%d: vec4;", i)
	}
	long := "shader vertex; " + strings.Join(list, " ") + " out o: vec4; main { }"
	_, _, code = compiler.Compile(long, 256)
	run(t, console.New(), []step{{"vertex " + long, outputOf(code, "")}})
}

// outputOf returns the output of a command with an error, or else this one.
func outputOf(code api.Errno, output string) string {
	if code != api.OK {
		return fmt.Sprintf("error %d\n", code)
	}
	return output
}

func TestP54_1Attributes(t *testing.T) {
	c := console.New()
	run(t, c, []step{{"pipeline 0 8 8 1 2 1 1 0", "error 11\n"}, {"attribute 0 0 16 4", "ok\n"}, {"pipeline 0 8 8 1 2 1 1 0", "ok\n"}, {"attribute 4 0 16 4", "error 2\n"}, {"attribute 0 4097 16 4", "error 2\n"}, {"attribute 0 0 257 4", "error 2\n"}, {"attribute 0 0 16 9", "error 2\n"}, {"attribute 0 0 16 0", "error 2\n"}, {"attribute -1 0 16 4", "error 2\n"}, {"pipeline 0 8 8 1 2 1 1 0", "ok\n"}})
	for range 7 {
		run(t, c, []step{{"attribute 3 4096 256 8", "ok\n"}})
	}
	run(t, c, []step{{"attribute 3 4096 256 8", "error 9\n"}, {"attribute 9 9 9 9", "error 9\n"}, {"pipeline 0 8 8 1 2 1 1 0", "error 11\n"}, {"attributes", "ok\n"}, {"pipeline 0 8 8 1 2 1 1 0", "error 11\n"}, {"attribute 1 2 3 4", "ok\n"}, {"attributes", "ok\n"}, {"attributes", "ok\n"}, {"attribute 2 3 4 4", "ok\n"}, {"pipeline 0 8 8 1 2 1 1 0", "ok\n"}})
	if p, _ := c.Device().Pipeline(0); fmt.Sprint(p.Attributes) != "[{2 3 4 4}]" {
		t.Errorf("the attributes are %v", p.Attributes)
	}
}

func TestP54_1Pipeline(t *testing.T) {
	c := console.New()
	run(t, c, []step{{"attribute 1 8 20 4", "ok\n"}, {"pipeline 6 20 9 4 5 3 3 2", "ok\n"}, {"pipeline 5 64 64 8 6 2 2 0", "ok\n"}})
	want := pipeline.Default()
	want.Attributes = []api.Attribute{{Buffer: 1, Offset: 8, Stride: 20, Format: api.Fixed4}}
	want.Viewport.Width, want.Viewport.Height, want.Samples, want.Format, want.DepthFormat, want.Cull = 20, 9, 4, api.R16F, api.D24S8, api.CullBack
	want.Depth = api.DepthState{Test: true, Write: true, Compare: api.LessThan}
	if p, _ := c.Device().Pipeline(6); !pipeline.Equal(p, want) {
		t.Errorf("the pipeline is %+v", p)
	}
	if p, _ := c.Device().Pipeline(5); p.Depth != (api.DepthState{Compare: api.Always}) || p.Samples != 8 {
		t.Errorf("the pipeline is %+v", p)
	}
	for compare := 1; compare <= 8; compare++ {
		run(t, c, []step{{fmt.Sprintf("pipeline 0 1 1 1 1 2 1 %d", compare), "ok\n"}})
		if p, _ := c.Device().Pipeline(0); p.Depth != (api.DepthState{Test: true, Write: true, Compare: api.CompareFunc(compare)}) {
			t.Errorf("the depth state is %v", p.Depth)
		}
	}
	run(t, c, []step{{"pipeline 8 8 8 1 2 1 1 0", "error 6\n"}, {"pipeline 0 0 8 1 2 1 1 0", "error 6\n"}, {"pipeline 0 8 65 1 2 1 1 0", "error 6\n"}, {"pipeline 0 8 8 3 2 1 1 0", "error 15\n"}, {"pipeline 0 8 8 1 7 1 1 0", "error 14\n"}, {"pipeline 0 8 8 1 2 0 1 0", "error 14\n"}, {"pipeline 0 8 8 1 2 1 4 0", "error 10\n"}, {"pipeline 0 8 8 1 2 1 1 9", "error 16\n"}, {"pipeline 0 8 8 1 2 1 1 -1", "error 16\n"}, {"pipeline 9 0 8 3 7 0 4 9", "error 6\n"}, {"pipeline 0 0 8 3 7 0 4 9", "error 10\n"}, {"pipeline 0 0 8 3 7 0 1 9", "error 6\n"}, {"pipeline 0 8 8 3 7 0 1 9", "error 16\n"}, {"pipeline 0 8 8 3 7 1 1 8", "error 14\n"}})
}

func TestP54_1Queue(t *testing.T) {
	c := console.New()
	run(t, c, []step{{"queue x", "error 3\n"}, {"queue draw 0", "error 3\n"}, {"queue draw 0 0", "error 6\n"}, {"queue draw 0 99999999999999999999", "error 6\n"}, {"queue end-pass", "ok\n"}, {"submit", "error 16\n"}, {"clear", "ok\n"}, {"submit", "done 0\n"}, {"target 0 2 2 1 2 1", "ok\n"}, {"queue begin-pass 0 load", "ok\n"}, {"submit", "error 16\n"}, {"queue end-pass", "ok\n"}, {"submit", "done 2\n"}, {"submit", "done 0\n"}})
	for range 256 {
		run(t, c, []step{{"queue bind-vertex 0 0", "ok\n"}})
	}
	run(t, c, []step{{"queue bind-vertex 0 0", "error 9\n"}, {"queue draw", "error 3\n"}, {"queue draw 0 0", "error 6\n"}, {"submit", "done 256\n"}, {"queue bind-pipeline 0", "ok\n"}, {"submit", "error 8\n"}, {"shuffle 0 1", "error 8\n"}, {"clear", "ok\n"}, {"clear", "ok\n"}})
}

func TestP54_1Shuffle(t *testing.T) {
	c := console.New()
	run(t, c, []step{{"target 0 20 9 1 2 1", "ok\n"}, {"queue begin-pass 0 clear 65536 0 0 65536 0 0", "ok\n"}, {"queue end-pass", "ok\n"}, {"shuffle -1 1", "error 6\n"}, {"shuffle -1 0", "error 6\n"}, {"shuffle 0 0", "error 2\n"}, {"shuffle 0 9", "error 2\n"}, {"shuffle 4611686018427387905 1", "error 25\n"}, {"shuffle 4611686018427387904 8", "done 2\n"}, {"color 0 19 8 0", "65536 0 0 65536\n"}, {"shuffle 0 1", "done 0\n"}, {"queue end-pass", "ok\n"}, {"shuffle 5 0", "error 2\n"}, {"shuffle 5 1", "error 16\n"}, {"clear", "ok\n"}, {"shuffle 5 1", "done 0\n"}})
}

// bytesOf returns fields with the bytes of 32-bit numbers.
func bytesOf(list ...int) string {
	text := ""
	for _, n := range list {
		for k := range 4 {
			text += fmt.Sprintf(" %d", byte(n>>(8*k)))
		}
	}
	return text
}

// scene returns lines that set a target, a pipeline and a triangle, and queue a draw in a pass.
func scene() []step {
	return []step{{"target 0 8 8 2 2 3", "ok\n"}, {"attribute 0 0 16 4", "ok\n"}, {"pipeline 0 8 8 2 2 3 1 2", "ok\n"}, {"buffer 0" + bytesOf(-one, -one, one/2, one, one, -one, one/2, one, -one, one, one/2, one), "ok\n"}, {"queue bind-pipeline 0", "ok\n"}, {"queue bind-vertex 0 0", "ok\n"}, {"queue begin-pass 0 clear 0 0 65536 65536 65536 7", "ok\n"}, {"queue begin-query 3", "ok\n"}, {"queue draw 0 3", "ok\n"}, {"queue draw 0 3", "ok\n"}, {"queue end-query 3", "ok\n"}, {"queue end-pass", "ok\n"}}
}

func TestP54_1Draw(t *testing.T) {
	c := console.New()
	run(t, c, scene())
	run(t, c, []step{
		{"query 3", "error 8\n"}, {"history 0 0 7", "draw -1 primitive -1 sample 0 cleared color 0 0 65536 65536\ndraw -1 primitive -1 sample 1 cleared color 0 0 65536 65536\ndraw 0 primitive 0 sample 0 written color 65536 65536 65536 65536\ndraw 0 primitive 0 sample 1 written color 65536 65536 65536 65536\ndraw 1 primitive 0 sample 0 depth color 65536 65536 65536 65536\ndraw 1 primitive 0 sample 1 depth color 65536 65536 65536 65536\n"}, {"history 0 7 0", "draw -1 primitive -1 sample 0 cleared color 0 0 65536 65536\ndraw -1 primitive -1 sample 1 cleared color 0 0 65536 65536\n"}, {"history 0 8 0", "error 6\n"}, {"history 1 0 0", "error 6\n"}, {"history 0 0 -1", "error 6\n"},
		{"color 0 0 7 0", "0 0 0 0\n"}, {"submit", "done 8\n"}, {"color 0 0 7 0", "65536 65536 65536 65536\n"}, {"color 0 7 0 1", "0 0 65536 65536\n"}, {"depth 0 0 7 1", "8388608 7\n"}, {"depth 0 7 0 1", "16777215 7\n"}, {"color 1 0 0 0", "error 8\n"}, {"color -1 0 0 0", "error 8\n"}, {"color 1 9 9 9", "error 8\n"}, {"depth 1 0 0 0", "error 8\n"}, {"color 0 8 0 0", "error 6\n"}, {"color 0 0 8 0", "error 6\n"}, {"color 0 0 0 2", "error 6\n"}, {"depth 0 0 0 -1", "error 6\n"}, {"depth 0 -1 0 0", "error 6\n"},
		{"query 3", "56\n"}, {"query 2", "error 8\n"}, {"query 8", "error 8\n"}, {"query -1", "error 8\n"}, {"history 0 0 7", ""}, {"check", "sound\n"},
	})
	run(t, c, []step{{"hash", format.FormatHash(c.Device().Hash()) + "\n"}})
	// The queue of an error is shown in the history, too.
	run(t, c, []step{{"queue end-pass", "ok\n"}, {"history 0 0 0", "error 16\n"}, {"clear", "ok\n"}, {"history 0 0 0", ""}, {"history 0 99 0", "error 6\n"}})
	shuffled := console.New()
	run(t, shuffled, scene())
	run(t, shuffled, []step{{"shuffle 77 3", "done 8\n"}, {"query 3", "56\n"}, {"hash", format.FormatHash(c.Device().Hash()) + "\n"}})
}

func TestP54_1Hash(t *testing.T) {
	run(t, console.New(), []step{{"hash", "0000000000000000\n"}})
	c := console.New()
	for i := range 20 {
		run(t, c, []step{{fmt.Sprintf("texture %d %d 1 1 %d 0 0 0", i%8, 1+i, 3000*i), "ok\n"}})
		run(t, c, []step{{"hash", format.FormatHash(c.Device().Hash()) + "\n"}})
	}
}

func TestP54_2New(t *testing.T) {
	a, b := console.New(), console.New()
	if a.Device() == nil || a.Device() == b.Device() || a.Device() != a.Device() || a.Device().Hash() != 0 {
		t.Error("the devices of two consoles are wrong")
	}
	// The device is that of the console.
	a.Device().SetBuffer(2, []byte{1, 2, 3})
	run(t, a, []step{{"texture 0 1 3 1 0 0 0 0", "ok\n"}, {"queue barrier 0 undefined copy", "ok\n"}, {"queue copy-to-image 0 2", "ok\n"}, {"submit", "done 2\n"}})
	if u, _ := a.Device().Texture(0); fmt.Sprint(u.Levels[0].Data) != "[1 2 3]" || fmt.Sprint(a.Device().States()) != "[5 1 1 1 1 1 1 1]" {
		t.Errorf("the texture is %v", u)
	}
	if _, found := b.Device().Texture(0); found {
		t.Error("two consoles share a device")
	}
	var none *device.Device
	for _, c := range []*console.Console{nil, {}, new(console.Console)} {
		for _, line := range []string{"", "check", "x", "hash", "buffer 0", " ", "target 0 8 8 1 2 1", "vertex x", "submit"} {
			if got := c.Execute(line); got != "" {
				t.Errorf("the output of %q is %q", line, got)
			}
		}
		if c.Device() != none {
			t.Error("a console that New did not return has a device")
		}
	}
}

func TestP54_2Run(t *testing.T) {
	for _, c := range []struct{ text, want string }{
		{"", ""}, {"\n", ""}, {"\n\n\n", ""}, {"check", "sound\n"}, {"check\n", "sound\n"}, {"check\n\ncheck", "sound\nsound\n"}, {"x", "error 25\n"}, {"x\ny\n", "error 25\nerror 25\n"}, {"check\r\n", "error 25\n"}, {" ", "error 25\n"}, {"target 0 8 8 1 2 1\ncolor 0 0 0 0\n", "ok\n0 0 0 0\n"}, {"target 0 8 8 1 2 1\ncolor 0 0 0 0", "ok\n0 0 0 0\n"}, {"color 0 0 0 0\n", "error 8\n"},
		{strings.Repeat("\n", 16384), ""}, {strings.Repeat("\n", 16385), "error 5\n"}, {strings.Repeat("x", 16384), "error 25\n"}, {strings.Repeat("x", 16385), "error 5\n"}, {strings.Repeat("check\n", 2730) + "hash", strings.Repeat("sound\n", 2730) + "0000000000000000\n"}, {strings.Repeat("check\n", 2730) + "hash\n", "error 5\n"},
	} {
		if got := console.Run(c.text); got != c.want {
			t.Errorf("the output of %.50q is %.100q, want %.100q", c.text, got, c.want)
		}
	}
	var text, want string
	for _, s := range scene() {
		text, want = text+s.line+"\n", want+s.want
	}
	if got := console.Run(text); got != want {
		t.Errorf("the output is %q, want %q", got, want)
	}
}
