package console_test

import (
	"fmt"
	"regexp"
	"slices"
	"strconv"
	"strings"
	"testing"

	"frustum/api"
	"frustum/compiler"
	"frustum/console"
	"frustum/device"
	"frustum/history"
	"frustum/image"
	"frustum/mipmap"
	"frustum/pipeline"
	"frustum/target"
	"frustum/trace"
)

// model is a second reading of P54.1.
type model struct {
	d          *device.Device
	programs   map[string]api.Program
	attributes []api.Attribute
	queue      []api.Command
}

func newModel() *model {
	p := pipeline.Default()
	return &model{device.New(), map[string]api.Program{"vertex": p.Vertex, "fragment": p.Fragment}, nil, nil}
}

var (
	decimal   = regexp.MustCompile(`^(0|-?[1-9][0-9]*)$`)
	printable = regexp.MustCompile(`^[!-~]+( [!-~]+)*$`)
)

// execute returns the output of a line.
func (m *model) execute(line string) string {
	if line == "" {
		return ""
	}
	words := strings.Split(line, " ")
	name, rest := words[0], words[1:]
	l, found := lengths()[name]
	if !printable.MatchString(line) || !found || len(rest) < l.count || !l.more && len(rest) > l.count {
		return "error 25\n"
	}
	var n []int
	for _, word := range rest {
		x, err := strconv.Atoi(word)
		if l.numbers && (!decimal.MatchString(word) || err != nil || x < -1<<62 || x > 1<<62) {
			return "error 25\n"
		}
		n = append(n, x)
	}
	if output, code := m.act(name, n, strings.Join(rest, " ")); code != api.OK {
		return fmt.Sprintf("error %d\n", code)
	} else if output != "" || name == "history" {
		return output
	}
	return "ok\n"
}

// act executes a command, and returns its output if it is not ok.
func (m *model) act(name string, n []int, text string) (string, api.Errno) {
	switch name {
	case "buffer":
		var data []byte
		for _, x := range n[1:] {
			if x != int(byte(x)) {
				return "", api.ErrRange
			}
			data = append(data, byte(x))
		}
		return "", m.d.SetBuffer(n[0], data)
	case "texture":
		picture, code := image.New(api.TexelFormat(n[3]), n[1], n[2])
		for i := range n[1] * n[2] {
			if code == api.OK {
				picture = image.Set(picture, i%n[1], i/n[1], api.Vec4{X: n[4], Y: n[5], Z: n[6], W: n[7]})
			}
		}
		if code != api.OK {
			return "", code
		}
		levels, _ := mipmap.Chain(picture)
		return "", m.d.SetTexture(n[0], levels)
	case "target":
		u, code := target.New(n[1], n[2], n[3], api.TexelFormat(n[4]), api.DepthFormat(n[5]))
		if code != api.OK {
			return "", code
		}
		return "", m.d.SetTarget(n[0], u)
	case "vertex", "fragment":
		p, _, code := compiler.Compile(text, 256)
		if code == api.OK && p.Stage != map[string]api.Stage{"vertex": api.VertexStage, "fragment": api.FragmentStage}[name] {
			code = api.ErrKind
		}
		if code == api.OK {
			m.programs[name] = p
		}
		return fmt.Sprintf("program %d %d\n", p.Registers, len(p.Code)), code
	case "attribute":
		if len(m.attributes) == 8 {
			return "", api.ErrFull
		}
		if n[0] < 0 || n[0] > 3 || n[1] < 0 || n[1] > 4096 || n[2] < 0 || n[2] > 256 || n[3] < 1 || n[3] > 8 {
			return "", api.ErrArgument
		}
		m.attributes = append(m.attributes, api.Attribute{Buffer: n[0], Offset: n[1], Stride: n[2], Format: api.VertexFormat(n[3])})
	case "attributes":
		m.attributes = nil
	case "pipeline":
		p := pipeline.Default()
		p.Vertex, p.Fragment, p.Attributes, p.Viewport = m.programs["vertex"], m.programs["fragment"], m.attributes, api.Viewport{Width: n[1], Height: n[2], MaxDepth: 65536}
		p.Samples, p.Format, p.DepthFormat, p.Cull = n[3], api.TexelFormat(n[4]), api.DepthFormat(n[5]), api.CullMode(n[6])
		if n[7] != 0 {
			p.Depth.Test, p.Depth.Write, p.Depth.Compare = true, true, api.CompareFunc(n[7])
		}
		return "", m.d.SetPipeline(n[0], p)
	}
	return m.actQueue(name, n, text)
}

// actQueue executes a command that uses the queue, or prints something.
func (m *model) actQueue(name string, n []int, text string) (string, api.Errno) {
	switch name {
	case "queue":
		c, code := trace.ParseLine(text)
		if code == api.OK && len(m.queue) == 256 {
			code = api.ErrFull
		}
		if code == api.OK {
			m.queue = append(m.queue, c)
		}
		return "", code
	case "submit", "shuffle":
		at, code := 0, api.ErrRange
		if name == "submit" {
			at, code = m.d.Submit(m.queue)
		} else if n[0] >= 0 {
			at, code = m.d.SubmitShuffled(m.queue, uint64(n[0]), n[1])
		}
		if code == api.OK {
			m.queue = nil
		}
		return fmt.Sprintf("done %d\n", at), code
	case "clear":
		m.queue = nil
	case "color", "depth":
		u, found := m.d.Target(n[0])
		inside := n[1] >= 0 && n[1] < u.Width && n[2] >= 0 && n[2] < u.Height && n[3] >= 0 && n[3] < u.Samples
		if !found {
			return "", api.ErrNotFound
		}
		if !inside {
			return "", api.ErrRange
		}
		if name == "depth" {
			return fmt.Sprintln(target.Depth(u, n[1], n[2], n[3]), target.Stencil(u, n[1], n[2], n[3])), api.OK
		}
		c := target.Color(u, n[1], n[2], n[3])
		return fmt.Sprintln(c.X, c.Y, c.Z, c.W), api.OK
	case "query":
		if x, found := m.d.Query(n[0]); found {
			return fmt.Sprintln(x), api.OK
		}
		return "", api.ErrNotFound
	case "hash":
		return fmt.Sprintf("%016x\n", m.d.Hash()), api.OK
	case "history":
		events, code := history.Pixel(m.d, m.queue, n[0], n[1], n[2])
		lines := ""
		for _, e := range events {
			lines += history.Text(e) + "\n"
		}
		return lines, code
	case "check":
		return "sound\n", api.OK
	}
	return "", api.OK
}

// state makes arbitrary lines.
type state uint64

func (s *state) next(beyond int) int {
	*s = *s*6364136223846793005 + 1442695040888963407
	return int(*s>>33) % beyond
}

// of returns one of some lines.
func (s *state) of(lines ...string) string {
	return lines[s.next(len(lines))]
}

// line returns an arbitrary line, of which most are right.
func (s *state) line() string {
	id, x, y := s.next(3), s.next(10)-1, s.next(10)-1
	switch s.next(24) {
	case 0:
		return fmt.Sprintf("buffer %d%s", id, bytesOf(s.next(3*one)-one, s.next(3*one)-one, s.next(one), one, -one, -one, 0, one, one, s.next(one), 0, one))
	case 1:
		return fmt.Sprintf("texture %d %d %d %d %d 0 7 65536", id, x, y, s.next(8), s.next(one))
	case 2:
		return fmt.Sprintf("target %d 8 8 %d 2 %d", id, []int{1, 1, 2, 3}[s.next(4)], 1+s.next(4))
	case 3:
		return s.of("vertex "+vertexText, "fragment "+fragmentText, "vertex "+fragmentText, "vertex shader vertex; in a: vec4; out o: vec4; main { o = a; }", "fragment shader fragment; out o: vec4; main { o = vec4(0.25, 0.5, 1.0, 1.0); }", "fragment x", "fragment shader fragment; out o: vec4; main { discard; }")
	case 4:
		return s.of("attribute 0 0 16 4", "attributes", fmt.Sprintf("attribute %d 0 %d 4", id, 4*s.next(70)))
	case 5, 6:
		return fmt.Sprintf("pipeline %d 8 8 %d 2 %d %d %d", id, 1+s.next(2), 1+s.next(3), 1+s.next(3), s.next(9))
	case 7:
		return s.of("clear", "check", "hash", "", "check now", "Hash", "submit  ")
	case 8, 9:
		return fmt.Sprintf("color %d %d %d %d", id, x, y, s.next(3)-s.next(2))
	case 10:
		return fmt.Sprintf("depth %d %d %d %d", id, x, y, s.next(3)-s.next(2))
	case 11:
		return fmt.Sprintf("query %d", s.next(10)-1)
	case 12, 13:
		return fmt.Sprintf("history %d %d %d", id, x, y)
	case 14:
		return "submit"
	case 15:
		return fmt.Sprintf("shuffle %d %d", s.next(1<<30)-s.next(2)*s.next(1<<30), s.next(10))
	case 16:
		return s.of("queue fly", "queue draw 0 0", "queue draw", "queue barrier 0 undefined copy", "queue resolve 0 0", "queue copy-to-image 1 1", "queue end-pass")
	}
	return "queue " + fmt.Sprintf(s.of("bind-pipeline %d", "bind-vertex 0 %d", "begin-pass %d load", "begin-pass %d clear 0 100 0 65536 65536 5"), id)
}

// pass returns the lines that queue a whole pass.
func (s *state) pass() []string {
	id, q := s.next(3), s.next(8)
	return []string{"clear", fmt.Sprintf("queue bind-pipeline %d", id), fmt.Sprintf("queue bind-vertex 0 %d", s.next(3)), fmt.Sprintf("queue begin-pass %d %s", id, s.of("load", "clear 0 100 0 65536 65536 5")), fmt.Sprintf("queue begin-query %d", q), fmt.Sprintf("queue draw 0 %d", 3+s.next(2)), fmt.Sprintf("queue end-query %d", q), "queue end-pass", fmt.Sprintf("history %d %d %d", id, s.next(8), s.next(8)), s.of("submit", "shuffle 5 3"), fmt.Sprintf("query %d", q)}
}

// setup returns lines that set targets and pipelines that match each other.
func setup() []string {
	lines := []string{"attribute 0 0 16 4"}
	for id := range 3 {
		lines = append(lines, fmt.Sprintf("target %d 8 8 %d 2 %d", id, 1+id%2, 1+id), fmt.Sprintf("pipeline %d 8 8 %d 2 %d 1 %d", id, 1+id%2, 1+id, 2*id), fmt.Sprintf("buffer %d%s", id, bytesOf(-one, -one, 0, one, one, -one, id, one, -one, one, one/2, one)))
	}
	return lines
}

// TestP54_1Arbitrary compares the output of arbitrary lines with the second reading.
func TestP54_1Arbitrary(t *testing.T) {
	s := state(1)
	outputs := map[string]int{}
	for range 120 {
		c, m := console.New(), newModel()
		lines := setup()
		for range s.next(60) {
			lines = append(lines, s.line())
			if s.next(6) == 0 {
				lines = append(lines, s.pass()...)
			}
		}
		for _, line := range lines {
			got, want := c.Execute(line), m.execute(line)
			if got != want {
				t.Fatalf("the output of %q in %q is %q, want %q", line, lines, got, want)
			}
			outputs[strings.Fields(got + " nothing")[0]]++
			if strings.HasPrefix(got, "error") {
				outputs[got]++
			}
		}
		if c.Device().Hash() != m.d.Hash() {
			t.Fatal("the devices differ")
		}
		text := strings.Join(lines, "\n")
		if len(text) <= 16384 {
			want := ""
			for m := newModel(); len(lines) > 0; lines = lines[1:] {
				want += m.execute(lines[0])
			}
			if got := console.Run(text); got != want || console.Run(text+"\n") != want {
				t.Fatalf("the output is %q, want %q", got, want)
			}
		}
	}
	for _, output := range []string{"ok", "done", "program", "sound", "draw", "0", "error 2\n", "error 3\n", "error 6\n", "error 8\n", "error 10\n", "error 11\n", "error 14\n", "error 15\n", "error 16\n", "error 18\n", "error 20\n", "error 25\n", "nothing"} {
		if outputs[output] < 5 {
			t.Errorf("only %d outputs are %q", outputs[output], output)
		}
	}
}

// TestP54_3Prefix cuts texts into lines: the output of the first lines is a prefix of the output of all.
func TestP54_3Prefix(t *testing.T) {
	s := state(2)
	for range 25 {
		lines := setup()
		for range s.next(20) {
			lines = slices.Concat(lines, []string{s.line()}, s.pass()[:s.next(11)])
		}
		text := strings.Join(lines, "\n")
		if len(text) > 16384 {
			continue
		}
		output := console.Run(text)
		for i := range len(lines) {
			part := strings.Join(lines[:i], "\n")
			if got := console.Run(part); !strings.HasPrefix(output, got) {
				t.Fatalf("the output of %q is %q, which is no prefix of %q", part, got, output)
			}
		}
	}
}
