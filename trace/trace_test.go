package trace_test

import (
	"fmt"
	"math"
	"math/big"
	"regexp"
	"slices"
	"strings"
	"testing"

	"frustum/api"
	"frustum/command"
	"frustum/trace"
)

const (
	one      = api.One
	largest  = math.MaxInt
	smallest = math.MinInt
)

// state makes arbitrary numbers.
type state uint64

func (s *state) next(beyond int) int {
	*s = *s*6364136223846793005 + 1442695040888963407
	return int(*s>>33) % beyond
}

// smooth is a valid sampler.
var smooth = api.Sampler{AddressU: api.Repeat, AddressV: api.ClampBorder, Magnify: api.Linear, Minify: api.Nearest, Mipmap: api.Linear, Border: api.Vec4{X: one, Y: 2, Z: 3, W: 4}, LODBias: -5, MinLOD: 6, MaxLOD: 8 * one}

// pairs returns commands with their lines.
func pairs() map[string]api.Command {
	return map[string]api.Command{
		"bind-pipeline 3": {Kind: api.BindPipeline, ID: 3}, "bind-vertex 2 4": {Kind: api.BindVertex, Slot: 2, ID: 4}, "bind-index 5 index16": {Kind: api.BindIndex, ID: 5, Index: api.Index16}, "bind-index 0 none": {Kind: api.BindIndex, Index: api.NoIndex}, "bind-index 7 index8": {Kind: api.BindIndex, ID: 7, Index: api.Index8}, "bind-index 7 index32": {Kind: api.BindIndex, ID: 7, Index: api.Index32},
		"bind-texture 1 6 1 4 2 1 2 65536 2 3 4 -5 6 524288": {Kind: api.BindTexture, Slot: 1, ID: 6, Sampler: smooth}, "bind-buffer 3 7": {Kind: api.BindBuffer, Slot: 3, ID: 7}, "set-uniforms 5 1 -2 3": {Kind: api.SetUniforms, First: 5, Values: []int{1, -2, 3}}, "set-uniforms 63 -2147483648": {Kind: api.SetUniforms, First: 63, Values: []int{math.MinInt32}}, "set-uniforms 0" + strings.Repeat(" 7", 64): {Kind: api.SetUniforms, Values: slices.Repeat([]int{7}, 64)},
		"begin-pass 2 clear 1 2 3 65536 4 5": {Kind: api.BeginPass, ID: 2, Clear: api.Vec4{X: 1, Y: 2, Z: 3, W: one}, ClearDepth: 4, ClearStencil: 5}, "begin-pass 7 load": {Kind: api.BeginPass, ID: 7, LoadContents: true}, "begin-pass 0 clear 0 0 0 0 0 0": {Kind: api.BeginPass}, "end-pass": {Kind: api.EndPass}, "draw 0 3": {Kind: api.Draw, Count: 3}, "draw 65536 1024": {Kind: api.Draw, First: 65536, Count: 1024},
		"barrier 1 read copy": {Kind: api.Barrier, ID: 1, From: api.ShaderRead, To: api.CopyTarget}, "barrier 0 undefined target": {Kind: api.Barrier, From: api.Undefined, To: api.RenderTarget}, "barrier 7 copy source": {Kind: api.Barrier, ID: 7, From: api.CopyTarget, To: api.CopySource}, "barrier 2 target read": {Kind: api.Barrier, ID: 2, From: api.RenderTarget, To: api.ShaderRead}, "begin-query 2": {Kind: api.BeginQuery, ID: 2}, "end-query 7": {Kind: api.EndQuery, ID: 7}, "copy-to-image 3 6": {Kind: api.CopyToImage, ID: 3, Slot: 6}, "resolve 7 1": {Kind: api.Resolve, ID: 7, Slot: 1},
	}
}

// lines returns the lines of pairs, in a fixed order.
func lines() []string {
	var all []string
	for line := range pairs() {
		all = append(all, line)
	}
	slices.Sort(all)
	return all
}

// fields returns what the words of a line with a name and a number of words stand for: pointers to fields of a command, or the words themselves.
func fields(name string, count int, c *api.Command) []any {
	s := &c.Sampler
	switch name {
	case "bind-pipeline", "begin-query", "end-query":
		return []any{&c.ID}
	case "bind-vertex", "bind-buffer":
		return []any{&c.Slot, &c.ID}
	case "copy-to-image", "resolve":
		return []any{&c.ID, &c.Slot}
	case "bind-index":
		return []any{&c.ID, &c.Index}
	case "bind-texture":
		return []any{&c.Slot, &c.ID, (*int)(&s.AddressU), (*int)(&s.AddressV), (*int)(&s.Magnify), (*int)(&s.Minify), (*int)(&s.Mipmap), &s.Border.X, &s.Border.Y, &s.Border.Z, &s.Border.W, &s.LODBias, &s.MinLOD, &s.MaxLOD}
	case "set-uniforms":
		all := []any{&c.First}
		c.Values = make([]int, max(1, count-1))
		for i := range c.Values {
			all = append(all, &c.Values[i])
		}
		return all
	case "begin-pass":
		if c.LoadContents = count == 2; c.LoadContents {
			return []any{&c.ID, "load"}
		}
		return []any{&c.ID, "clear", &c.Clear.X, &c.Clear.Y, &c.Clear.Z, &c.Clear.W, &c.ClearDepth, &c.ClearStencil}
	case "draw":
		return []any{&c.First, &c.Count}
	case "barrier":
		return []any{&c.ID, &c.From, &c.To}
	}
	return nil
}

// kinds are the names of the kinds, by their numbers.
var kinds = []string{"", "bind-pipeline", "bind-vertex", "bind-index", "bind-texture", "bind-buffer", "set-uniforms", "begin-pass", "end-pass", "draw", "barrier", "begin-query", "end-query", "copy-to-image", "resolve"}

var decimal = regexp.MustCompile(`^(0|-?[1-9][0-9]*)$`)

// expectedLine is a second reading of P52.2.
func expectedLine(c api.Command) (string, api.Errno) {
	if code := command.Check(c); code != api.OK {
		return "", code
	}
	copied := c
	count := 1 + len(c.Values)
	if c.LoadContents {
		count = 2
	}
	words := []string{kinds[c.Kind]}
	list := fields(kinds[c.Kind], count, &copied)
	copied = c
	for i, field := range list {
		switch f := field.(type) {
		case *int:
			if c.Kind == api.SetUniforms && i > 0 {
				words = append(words, fmt.Sprint(c.Values[i-1]))
			} else {
				words = append(words, fmt.Sprint(*f))
			}
		case *api.IndexType:
			words = append(words, []string{"", "none", "index8", "index16", "index32"}[*f])
		case *api.ResourceState:
			words = append(words, []string{"", "undefined", "read", "target", "source", "copy"}[*f])
		case string:
			words = append(words, f)
		}
	}
	return strings.Join(words, " "), api.OK
}

// expectedParse is a second reading of P52.3.
func expectedParse(s string) (api.Command, api.Errno) {
	words := strings.Split(s, " ")
	kind := slices.Index(kinds, words[0])
	if kind < 1 {
		return api.Command{}, api.ErrSyntax
	}
	c := api.Command{Kind: api.CommandKind(kind)}
	list := fields(words[0], len(words)-1, &c)
	if len(list) != len(words)-1 {
		return api.Command{}, api.ErrSyntax
	}
	far := false
	for i, word := range words[1:] {
		good := true
		switch f := list[i].(type) {
		case *int:
			good = decimal.MatchString(word)
			if n, _ := new(big.Int).SetString(word, 10); good && n.CmpAbs(big.NewInt(1<<62)) <= 0 {
				*f = int(n.Int64())
			} else if good {
				far = true
			}
		case *api.IndexType:
			*f = api.IndexType(slices.Index([]string{"none", "index8", "index16", "index32"}, word) + 1)
			good = *f > 0
		case *api.ResourceState:
			*f = api.ResourceState(slices.Index([]string{"undefined", "read", "target", "source", "copy"}, word) + 1)
			good = *f > 0
		case string:
			good = f == word
		}
		if !good {
			return api.Command{}, api.ErrSyntax
		}
	}
	if far {
		return api.Command{}, api.ErrRange
	}
	if code := command.Check(c); code != api.OK {
		return api.Command{}, code
	}
	return c, api.OK
}

// checkParse compares ParseLine with its second reading.
func checkParse(t *testing.T, s string) api.Errno {
	t.Helper()
	want, code := expectedParse(s)
	got, errno := trace.ParseLine(s)
	if errno != code || !command.Equal(got, want) {
		t.Fatalf("the line %q is %+v, error %d, want %+v, error %d", s, got, errno, want, code)
	}
	if code == api.OK {
		if line, errno := trace.Line(got); line != s || errno != api.OK {
			t.Fatalf("the line of %+v is %q, error %d", got, line, errno)
		}
	}
	return code
}

// checkLine compares Line with its second reading.
func checkLine(t *testing.T, c api.Command) api.Errno {
	t.Helper()
	before := fmt.Sprint(c)
	want, code := expectedLine(c)
	got, errno := trace.Line(c)
	if got != want || errno != code || fmt.Sprint(c) != before {
		t.Fatalf("the line of %+v is %q, error %d, want %q, error %d", c, got, errno, want, code)
	}
	return code
}

func TestP52_1Words(t *testing.T) {
	for i, want := range []string{"?", "none", "index8", "index16", "index32", "?", "?"} {
		if got := trace.IndexWord(api.IndexType(i)); got != want {
			t.Errorf("the word for the index type %d is %q, want %q", i, got, want)
		}
	}
	for i, want := range []string{"?", "undefined", "read", "target", "source", "copy", "?", "?"} {
		if got := trace.StateWord(api.ResourceState(i)); got != want {
			t.Errorf("the word for the state %d is %q, want %q", i, got, want)
		}
	}
	for _, n := range []int{-1, 100, 1 << 32, 1<<32 + 1, largest, smallest} {
		if a, b := trace.IndexWord(api.IndexType(n)), trace.StateWord(api.ResourceState(n)); a != "?" || b != "?" {
			t.Errorf("the words for %d are %q and %q", n, a, b)
		}
	}
}

func TestP52_2Line(t *testing.T) {
	for want, c := range pairs() {
		if code := checkLine(t, c); code != api.OK {
			t.Errorf("%+v has error %d", c, code)
		}
		if got, _ := trace.Line(c); got != want {
			t.Errorf("the line of %+v is %q, want %q", c, got, want)
		}
	}
	for _, c := range []struct {
		command api.Command
		want    api.Errno
	}{
		{api.Command{}, api.ErrKind}, {api.Command{Kind: 15}, api.ErrKind}, {api.Command{Kind: -1, ID: 9}, api.ErrKind}, {api.Command{Kind: largest}, api.ErrKind}, {api.Command{Kind: api.BindPipeline, ID: 8}, api.ErrRange}, {api.Command{Kind: api.BindPipeline, Slot: 1}, api.ErrArgument}, {api.Command{Kind: api.SetUniforms}, api.ErrRange}, {api.Command{Kind: api.BindTexture}, api.ErrRange}, {api.Command{Kind: api.BeginPass, LoadContents: true, ClearDepth: 1}, api.ErrArgument}, {api.Command{Kind: api.Barrier}, api.ErrRange}, {api.Command{Kind: api.BindIndex}, api.ErrRange}, {api.Command{Kind: api.EndPass, Values: []int{1}}, api.ErrArgument},
	} {
		if got := checkLine(t, c.command); got != c.want {
			t.Errorf("%+v has error %d, want %d", c.command, got, c.want)
		}
	}
}

func TestP52_3ParseLine(t *testing.T) {
	for line, want := range pairs() {
		got, code := trace.ParseLine(line)
		if code != api.OK || !command.Equal(got, want) || checkParse(t, line) != api.OK {
			t.Errorf("the line %q is %+v, error %d, want %+v", line, got, code, want)
		}
	}
	for line, want := range map[string]api.Errno{
		"": api.ErrSyntax, " ": api.ErrSyntax, "?": api.ErrSyntax, "fly 1": api.ErrSyntax, "Draw 0 3": api.ErrSyntax, "draw": api.ErrSyntax, "draw 0": api.ErrSyntax, "draw 0 3 4": api.ErrSyntax, "draw 0  3": api.ErrSyntax, " draw 0 3": api.ErrSyntax, "draw 0 3 ": api.ErrSyntax, "draw\t0 3": api.ErrSyntax, "draw 0 3\n": api.ErrSyntax, "draw 0 x": api.ErrSyntax, "draw 0 03": api.ErrSyntax, "draw -0 3": api.ErrSyntax, "draw +0 3": api.ErrSyntax, "draw 0 3.0": api.ErrSyntax, "end-pass 1": api.ErrSyntax, "end-pass": api.OK, "draw 0 3\xff": api.ErrSyntax,
		"draw 0 0": api.ErrRange, "draw -1 3": api.ErrRange, "draw 0 4611686018427387904": api.ErrRange, "draw 0 4611686018427387905": api.ErrRange, "draw 0 99999999999999999999": api.ErrRange, "draw -99999999999999999999 3": api.ErrRange, "draw 99999999999999999999 x": api.ErrSyntax, "draw x 99999999999999999999": api.ErrSyntax, "draw 99999999999999999999 0": api.ErrRange,
		"bind-index 0 ?": api.ErrSyntax, "bind-index 0 1": api.ErrSyntax, "bind-index 0 index64": api.ErrSyntax, "bind-index 9 none": api.ErrRange, "bind-index 9 None": api.ErrSyntax, "barrier 0 ? read": api.ErrSyntax, "barrier 0 read ?": api.ErrSyntax, "barrier 0 read undefined": api.ErrRange, "barrier 8 read copy": api.ErrRange, "barrier 99999999999999999999 red copy": api.ErrSyntax, "barrier 99999999999999999999 read copy": api.ErrRange,
		"begin-pass 0": api.ErrSyntax, "begin-pass 0 clear": api.ErrSyntax, "begin-pass 0 load 0": api.ErrSyntax, "begin-pass 0 load 0 0 0 0 0 0": api.ErrSyntax, "begin-pass 0 clear 0 0 0 0 0": api.ErrSyntax, "begin-pass 0 clear 0 0 0 0 0 0 0": api.ErrSyntax, "begin-pass 8 load": api.ErrRange, "begin-pass 0 clear 0 0 0 0 0 256": api.ErrRange, "begin-pass 0 clear 65537 0 0 0 0 0": api.ErrRange, "begin-pass 0 1": api.ErrSyntax,
		"set-uniforms": api.ErrSyntax, "set-uniforms 0": api.ErrSyntax, "set-uniforms 64 1": api.ErrRange, "set-uniforms 63 1 2": api.ErrRange, "set-uniforms 0 2147483648": api.ErrRange, "set-uniforms 0" + strings.Repeat(" 1", 65): api.ErrRange, "set-uniforms 0" + strings.Repeat(" 1", 65) + " x": api.ErrSyntax, "bind-texture 0 0 1 1 1 1 1 0 0 0 0 0 0": api.ErrSyntax, "bind-texture 0 0 1 1 1 1 1 0 0 0 0 0 0 0 0": api.ErrSyntax, "bind-texture 0 0 0 1 1 1 1 0 0 0 0 0 0 0": api.ErrRange, "bind-texture 0 0 1 1 1 1 1 0 0 0 0 0 0 0": api.OK,
	} {
		if got := checkParse(t, line); got != want {
			t.Errorf("the line %q has error %d, want %d", line, got, want)
		}
	}
}

// TestP52_3Changed changes each line word by word and byte by byte.
func TestP52_3Changed(t *testing.T) {
	seen := map[api.Errno]int{}
	replacements := []string{"", "0", "1", "7", "8", "-1", "65536", "65537", "4611686018427387904", "-4611686018427387905", "99999999999999999999", "00", "-0", "x", "load", "clear", "read", "none", "?", "draw", "undefined", "index32", "1 2", "end-pass"}
	for _, line := range lines() {
		words := strings.Split(line, " ")
		for i := range words {
			for _, word := range replacements {
				other := slices.Clone(words)
				other[i] = word
				seen[checkParse(t, strings.Join(other, " "))]++
				seen[checkParse(t, strings.Join(slices.Insert(slices.Clone(words), i, word), " "))]++
			}
			seen[checkParse(t, strings.Join(slices.Delete(slices.Clone(words), i, i+1), " "))]++
			for k := range min(i, 5) {
				other := slices.Clone(words)
				other[i], other[k] = other[k], other[i]
				seen[checkParse(t, strings.Join(other, " "))]++
			}
		}
		for i := range min(len(line), 60) {
			for _, b := range []byte{0, '\n', ' ', '-', '0', '9', 'a', 0x7f, 0x80, 0xff} {
				seen[checkParse(t, line[:i]+string([]byte{b})+line[i:])]++
				seen[checkParse(t, line[:i]+string([]byte{b})+line[i+1:])]++
			}
		}
	}
	for _, code := range []api.Errno{api.OK, api.ErrSyntax, api.ErrRange} {
		if seen[code] < 300 {
			t.Errorf("only %d lines have error %d", seen[code], code)
		}
	}
}

func TestP52_3Words(t *testing.T) {
	for i, want := range []int{-1, 1, 2, 2, 14, 2, 2, 2, 0, 2, 3, 1, 1, 2, 2, -1, -1} {
		if got := trace.Words(api.CommandKind(i)); got != want {
			t.Errorf("the kind %d has %d words, want %d", i, got, want)
		}
	}
	for _, k := range []api.CommandKind{-1, 1 << 32, 1<<32 + 1, largest, smallest} {
		if got := trace.Words(k); got != -1 {
			t.Errorf("the kind %d has %d words", k, got)
		}
	}
	shortest := map[api.CommandKind]int{}
	for line, c := range pairs() {
		count := strings.Count(line, " ")
		if n, found := shortest[c.Kind]; !found || count < n {
			shortest[c.Kind] = count
		}
	}
	for k, count := range shortest {
		if got := trace.Words(k); got != count {
			t.Errorf("the kind %d has %d words, and a line with %d", k, got, count)
		}
	}
}

func TestP52_4Format(t *testing.T) {
	draw, wrong := api.Command{Kind: api.Draw, Count: 3}, api.Command{Kind: api.Draw}
	for _, c := range []struct {
		list []api.Command
		want string
		code api.Errno
	}{
		{nil, "", api.OK}, {[]api.Command{}, "", api.OK}, {[]api.Command{draw}, "draw 0 3\n", api.OK}, {[]api.Command{draw, {Kind: api.EndPass}}, "draw 0 3\nend-pass\n", api.OK}, {[]api.Command{draw, wrong}, "", api.ErrRange}, {[]api.Command{draw, {}, wrong}, "", api.ErrKind}, {[]api.Command{wrong, {}}, "", api.ErrRange}, {[]api.Command{{Kind: api.EndPass, ID: 1}}, "", api.ErrArgument},
		{slices.Repeat([]api.Command{draw}, 256), strings.Repeat("draw 0 3\n", 256), api.OK}, {slices.Repeat([]api.Command{draw}, 257), "", api.ErrTooLong}, {slices.Repeat([]api.Command{wrong}, 257), "", api.ErrTooLong}, {slices.Repeat([]api.Command{wrong}, 256), "", api.ErrRange},
	} {
		before := fmt.Sprint(c.list)
		if got, code := trace.Format(c.list); got != c.want || code != c.code || fmt.Sprint(c.list) != before {
			t.Errorf("the text of %v is %q, error %d, want %q, error %d", c.list, got, code, c.want, c.code)
		}
	}
	// The text can be longer than one that Parse takes.
	long := api.Command{Kind: api.SetUniforms, Values: slices.Repeat([]int{math.MinInt32}, 64)}
	text, code := trace.Format(slices.Repeat([]api.Command{long}, 256))
	if code != api.OK || len(text) < 100000 {
		t.Errorf("a long text has %d bytes, error %d", len(text), code)
	}
	if list, line, code := trace.Parse(text); code != api.ErrTooLong || line != 0 || list != nil {
		t.Errorf("a long text has the commands %v, error %d in line %d", list, code, line)
	}
}

func TestP52_4Parse(t *testing.T) {
	for _, c := range []struct {
		text  string
		count int
		line  int
		want  api.Errno
	}{
		{"", 0, 0, api.OK}, {"draw 0 3\n", 1, 0, api.OK}, {"draw 0 3\nend-pass\n", 2, 0, api.OK}, {"draw 0 3", 0, 0, api.ErrSyntax}, {"draw 0 3\nend-pass", 0, 0, api.ErrSyntax}, {"x\nend-pass", 0, 0, api.ErrSyntax}, {"\n", 0, 1, api.ErrLine}, {"draw 0 3\n\n", 0, 2, api.ErrLine}, {"draw 0 3\nx\ny\n", 0, 2, api.ErrLine}, {"draw 0 0\n", 0, 1, api.ErrLine}, {"end-pass\nend-pass\ndraw 99999999999999999999 3\n", 0, 3, api.ErrLine}, {"draw 0 3\r\n", 0, 1, api.ErrLine},
		{strings.Repeat("end-pass\n", 256), 256, 0, api.OK}, {strings.Repeat("end-pass\n", 257), 0, 0, api.ErrTooLong}, {strings.Repeat("end-pass\n", 1000), 0, 0, api.ErrTooLong},
		// An error in a line comes before too many lines, wherever it is, and too long a text before all.
		{strings.Repeat("end-pass\n", 257) + "x\n", 0, 258, api.ErrLine}, {strings.Repeat("x\n", 300), 0, 1, api.ErrLine}, {strings.Repeat("end-pass\n", 1820) + "aaa\n", 0, 1821, api.ErrLine}, {strings.Repeat("end-pass\n", 1820) + "aaaa\n", 0, 0, api.ErrTooLong}, {strings.Repeat("x", 16385), 0, 0, api.ErrTooLong}, {strings.Repeat("x", 16384), 0, 0, api.ErrSyntax}, {strings.Repeat("\n", 16384), 0, 1, api.ErrLine},
	} {
		list, line, code := trace.Parse(c.text)
		if len(list) != c.count || line != c.line || code != c.want {
			t.Errorf("%.40q has %d commands, error %d in line %d, want %d, error %d in line %d", c.text, len(list), code, line, c.count, c.want, c.line)
		}
	}
}

// TestP52_5Arbitrary formats and parses arbitrary lists.
func TestP52_5Arbitrary(t *testing.T) {
	s, all := state(1), lines()
	for range 2000 {
		var list []api.Command
		var text string
		for range s.next(30) {
			line := all[s.next(len(all))]
			c := pairs()[line]
			switch {
			case c.Kind == api.SetUniforms && s.next(2) == 0:
				c.First, c.Values = s.next(60), nil
				for range 1 + s.next(4) {
					c.Values = append(c.Values, s.next(1<<31)-s.next(2)*(1<<31))
				}
			case c.Kind == api.BindTexture:
				c.Sampler.LODBias, c.Sampler.Border.Z = s.next(16*one)-8*one, s.next(one+1)
			}
			checkLine(t, c)
			line, _ = trace.Line(c)
			list, text = append(list, c), text+line+"\n"
		}
		got, code := trace.Format(list)
		if got != text || code != api.OK {
			t.Fatalf("the text of %v is %q, error %d", list, got, code)
		}
		parsed, line, code := trace.Parse(text)
		if code != api.OK || line != 0 || !slices.EqualFunc(parsed, list, command.Equal) {
			t.Fatalf("%q is %v, error %d in line %d", text, parsed, code, line)
		}
		// Commands of a result share no memory.
		for i := range parsed {
			for k := range parsed[i].Values {
				parsed[i].Values[k] = i
			}
		}
		for i, c := range parsed {
			if slices.ContainsFunc(c.Values, func(x int) bool { return x != i }) {
				t.Fatal("two commands share memory")
			}
		}
	}
}
