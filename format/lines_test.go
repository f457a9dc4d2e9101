package format

import (
	"regexp"
	"slices"
	"strings"
	"testing"

	"frustum/api"
)

// nameForm is the form of a name of any length.
var nameForm = regexp.MustCompile(`^[A-Za-z_][A-Za-z0-9_]*$`)

// expectedFields returns what Fields must return, byte by byte.
func expectedFields(line string) ([]string, api.Errno) {
	if line == "" {
		return nil, api.OK
	}
	fields := []string{""}
	for i := range len(line) {
		switch last := len(fields) - 1; {
		case line[i] == 32 && fields[last] != "":
			fields = append(fields, "")
		case line[i] <= 32 || line[i] >= 127:
			return nil, api.ErrSyntax
		default:
			fields[last] += line[i : i+1]
		}
	}
	if fields[len(fields)-1] == "" {
		return nil, api.ErrSyntax
	}
	return fields, api.OK
}

// expectedLines returns what SplitLines must return, byte by byte.
func expectedLines(text string) ([]string, api.Errno) {
	if len(text) > 16384 {
		return nil, api.ErrTooLong
	}
	var lines []string
	var line []byte
	for i := range len(text) {
		if text[i] == 10 {
			lines, line = append(lines, string(line)), nil
		} else {
			line = append(line, text[i])
		}
	}
	if len(line) > 0 {
		return nil, api.ErrSyntax
	}
	return lines, api.OK
}

func checkFields(t *testing.T, line string, want []string, wantCode api.Errno) {
	t.Helper()
	if fields, code := Fields(line); !slices.Equal(fields, want) || code != wantCode {
		t.Errorf("Fields(%.60q) is %.60q, %d, want %.60q, %d", line, fields, code, want, wantCode)
	}
}

func checkLines(t *testing.T, text string, want []string, wantCode api.Errno) {
	t.Helper()
	if lines, code := SplitLines(text); !slices.Equal(lines, want) || code != wantCode {
		t.Errorf("SplitLines(%.60q) is %d lines %.60q, %d, want %d lines %.60q, %d", text, len(lines), lines, code, len(want), want, wantCode)
	}
}

func checkName(t *testing.T, s string, want bool) {
	t.Helper()
	if got := IsName(s); got != want {
		t.Errorf("IsName(%.60q) is %t", s, got)
	}
}

func TestP6_3Fields(t *testing.T) {
	for _, c := range []struct {
		line string
		want []string
	}{
		{"", nil}, {"a", []string{"a"}}, {"!", []string{"!"}}, {"~", []string{"~"}}, {"word", []string{"word"}}, {"a b", []string{"a", "b"}}, {"a a a", []string{"a", "a", "a"}},
		{"draw 0 3", []string{"draw", "0", "3"}}, {"target 0 8 8 1 2 1", []string{"target", "0", "8", "8", "1", "2", "1"}}, {"-1 +2 3.5 \"x\" \\n", []string{"-1", "+2", "3.5", "\"x\"", "\\n"}},
		{strings.Repeat("x", 20000), []string{strings.Repeat("x", 20000)}}, {strings.Repeat("ab ", 9000) + "ab", slices.Repeat([]string{"ab"}, 9001)},
	} {
		checkFields(t, c.line, c.want, api.OK)
	}
	for _, line := range []string{
		" ", "  ", "   ", " a", "a ", "  a", "a  ", " a ", "a  b", "a   b", " a b", "a b ", "a b  c", "a  b c", "a\tb", "a\n", "\na", "a\nb", "a \n", "a\r", "\r", "\n", "\t", "\v", "a b\r\n", "a\x00", "\x00",
		"a\x7f", "\x7f", "\x80", "a\xff", "\xff b", "\xc3\xa9", "a \xe2\x82\xac", "a\xc2\xa0b", "a \x00 b", strings.Repeat("x", 20000) + " ", strings.Repeat("ab ", 9000),
	} {
		checkFields(t, line, nil, api.ErrSyntax)
	}
}

// TestP6_3FieldBytes checks each byte as a field and at each place of one, alone and beside other fields.
func TestP6_3FieldBytes(t *testing.T) {
	all := allBytes()
	for i := range len(all) {
		b := all[i : i+1]
		visible := 33 <= i && i <= 126
		for _, field := range []string{b, "a" + b, b + "a", "a" + b + "a", "aa" + b + "aa", b + b} {
			for _, fields := range [][]string{{field}, {field, "x"}, {"x", field}, {"x", field, "y"}} {
				line := strings.Join(fields, " ")
				switch {
				case visible:
					checkFields(t, line, fields, api.OK)
				case i != ' ':
					checkFields(t, line, nil, api.ErrSyntax)
				}
			}
		}
	}
	checkFields(t, " ", nil, api.ErrSyntax)
	checkFields(t, "a a", []string{"a", "a"}, api.OK)
}

func TestP6_3FieldsWords(t *testing.T) {
	lists := [][]string{words(allBytes(), 2), words(" a~!\t\x7f", 6), words(" a", 12), spoiled("one two"), spoiled("a")}
	for _, list := range lists {
		for _, line := range list {
			want, wantCode := expectedFields(line)
			checkFields(t, line, want, wantCode)
		}
	}
}

func TestP6_3JoinFields(t *testing.T) {
	for _, c := range []struct {
		fields []string
		want   string
	}{
		{nil, ""}, {[]string{}, ""}, {[]string{""}, ""}, {[]string{"", ""}, " "}, {[]string{"", "", ""}, "  "}, {[]string{"a"}, "a"}, {[]string{"a", "b"}, "a b"}, {[]string{"a", "b", "c"}, "a b c"},
		{[]string{"", "a"}, " a"}, {[]string{"a", ""}, "a "}, {[]string{"a", "", "b"}, "a  b"}, {[]string{"draw", "0", "3"}, "draw 0 3"},
		{[]string{" ", "a b", "\n", "\xff\x00"}, "  a b \n \xff\x00"}, {slices.Repeat([]string{"ab"}, 9001), strings.Repeat("ab ", 9000) + "ab"},
	} {
		if got := JoinFields(c.fields...); got != c.want {
			t.Errorf("JoinFields(%.60q) is %.60q, want %.60q", c.fields, got, c.want)
		}
	}
	// Fields are given one by one, too.
	if JoinFields() != "" || JoinFields("") != "" || JoinFields("x") != "x" || JoinFields("x", "y") != "x y" || JoinFields("", "z") != " z" {
		t.Error("JoinFields of single arguments")
	}
}

// TestP6_3JoinFieldsMemory checks that neither the fields nor the capacity behind them are changed.
func TestP6_3JoinFieldsMemory(t *testing.T) {
	room := []string{"a", "", "b c", "d", "behind", "", "end"}
	before := slices.Clone(room)
	for length := range len(room) + 1 {
		if got, want := JoinFields(room[:length]...), strings.Join(before[:length], " "); got != want {
			t.Errorf("JoinFields of %d fields is %q, want %q", length, got, want)
		}
		if !slices.Equal(room, before) {
			t.Errorf("JoinFields of %d fields changed %q to %q", length, before, room)
		}
	}
}

// TestP6_3JoinedFields checks that joined fields are split again as they were.
func TestP6_3JoinedFields(t *testing.T) {
	for _, fields := range [][]string{nil, {"a"}, {"!", "~"}, {"set-uniforms", "0", "-1", "65536"}, strings.Split(allBytes()[33:127], ""), {allBytes()[33:127], "z"}} {
		checkFields(t, JoinFields(fields...), fields, api.OK)
	}
	accepted := 0
	for _, line := range words(" a!", 7) {
		if fields, code := Fields(line); code == api.OK {
			accepted++
			if got := JoinFields(fields...); got != line {
				t.Errorf("the fields of %q are joined to %q", line, got)
			}
		}
	}
	if accepted < 100 {
		t.Errorf("only %d lines are accepted", accepted)
	}
}

func TestP6_3SplitLines(t *testing.T) {
	for _, c := range []struct {
		text string
		want []string
	}{
		{"", nil}, {"\n", []string{""}}, {"\n\n", []string{"", ""}}, {"\n\n\n", []string{"", "", ""}}, {"a\n", []string{"a"}}, {"a\nb\n", []string{"a", "b"}}, {"\na\n", []string{"", "a"}}, {"a\n\n", []string{"a", ""}},
		{"a\n\nb\n", []string{"a", "", "b"}}, {" \n", []string{" "}}, {"a b\nc d\n", []string{"a b", "c d"}}, {"\r\n", []string{"\r"}}, {"a\r\nb\r\n", []string{"a\r", "b\r"}}, {"a\rb\n", []string{"a\rb"}},
		{"\x00\n\xff\n", []string{"\x00", "\xff"}}, {"\v\f\n", []string{"\v\f"}}, {"\xc2\x85\xe2\x80\xa8\n", []string{"\xc2\x85\xe2\x80\xa8"}}, {"\\n\n", []string{"\\n"}},
	} {
		checkLines(t, c.text, c.want, api.OK)
	}
	for _, text := range []string{"a", " ", "\r", "\n\r", "\na", "a\nb", "a\n\nb", "a\n ", "\x00", "a\n\x00", "\xff", "a\r", "\n\n\n\n.", "\\n"} {
		checkLines(t, text, nil, api.ErrSyntax)
	}
}

// TestP6_3SplitLinesLength checks texts next to the largest length, with and without a line feed at their end.
func TestP6_3SplitLinesLength(t *testing.T) {
	for length := api.MaxText - 2; length <= api.MaxText+2; length++ {
		var wantCode, wantOpenCode api.Errno = api.OK, api.ErrSyntax
		line, one, feeds, lines := strings.Repeat("x", length-1), []string(nil), []string(nil), []string(nil)
		if length > 16384 {
			wantCode, wantOpenCode = api.ErrTooLong, api.ErrTooLong
		} else {
			one, feeds, lines = []string{line}, make([]string, length), []string{line[1:], ""}
		}
		checkLines(t, line+"\n", one, wantCode)
		checkLines(t, strings.Repeat("\n", length), feeds, wantCode)
		checkLines(t, line[1:]+"\n\n", lines, wantCode)
		checkLines(t, line+"x", nil, wantOpenCode)
		checkLines(t, strings.Repeat("\n", length-1)+"x", nil, wantOpenCode)
		checkLines(t, strings.Repeat("\xff", length), nil, wantOpenCode)
	}
	for _, length := range []int{2 * api.MaxText, 1 << 16, 1 << 20} {
		checkLines(t, strings.Repeat("\n", length), nil, api.ErrTooLong)
		checkLines(t, strings.Repeat("x", length), nil, api.ErrTooLong)
	}
}

func TestP6_3SplitLinesWords(t *testing.T) {
	lists := [][]string{words(allBytes(), 2), words("\na\r ", 6), words("\na", 12), spoiled("one\ntwo\n")}
	for _, list := range lists {
		for _, text := range list {
			want, wantCode := expectedLines(text)
			checkLines(t, text, want, wantCode)
		}
	}
}

// TestP6_3ResultMemory checks that the slices of two results are not the same.
func TestP6_3ResultMemory(t *testing.T) {
	fields, _ := Fields("a b c")
	lines, _ := SplitLines("a\nb\nc\n")
	clear(fields)
	clear(lines)
	checkFields(t, "a b c", []string{"a", "b", "c"}, api.OK)
	checkLines(t, "a\nb\nc\n", []string{"a", "b", "c"}, api.OK)
}

func TestP6_4IsName(t *testing.T) {
	for _, s := range []string{
		"a", "z", "A", "Z", "_", "__", "_0", "a0", "a9", "Z9_", "m", "M", "position", "uv2", "_private", "camelCase", "UPPER_CASE", "a_b_c", "let", "abcdefghijklmno", "abcdefghijklmnop", "________________", "a123456789012345", "_123456789ABCDEF",
	} {
		checkName(t, s, true)
	}
	for _, s := range []string{
		"", " ", "0", "9", "0a", "9_", "1", "-", "-a", "a-b", "a b", " a", "a ", "a.b", ".", "a\n", "a\x00", "\x00", "a'", "@", "[", "`", "{", "/", ":", "a@", "a[", "a`", "a{", "a/", "a:", "a^", "^", "a$", "\xff", "a\xff", "\x80", "\xc3\xa9", "a\xc3\xa9", "\xce\xb1",
		"\xd9\xa1", "a\xd9\xa1", "abcdefghijklmnopq", "_________________", "a1234567890123456", "abcdefghijklmnop ", "abcdefghijklmnop\n", "0123456789abcdef", strings.Repeat("a", 100), strings.Repeat("a", 256), strings.Repeat("a", 272), strings.Repeat("a", 65552),
	} {
		checkName(t, s, false)
	}
}

// TestP6_4NameBytes checks each byte as the first one and at each later place, in names of each length.
func TestP6_4NameBytes(t *testing.T) {
	all := allBytes()
	for i := range len(all) {
		b := all[i : i+1]
		letter := 'a' <= i && i <= 'z' || 'A' <= i && i <= 'Z' || i == '_'
		part := letter || '0' <= i && i <= '9'
		for length := 1; length <= 18; length++ {
			rest := strings.Repeat("k", length-1)
			checkName(t, b+rest, letter && length <= 16)
			for at := 1; at < length; at++ {
				checkName(t, rest[:at]+b+rest[at:], part && length <= 16)
			}
		}
	}
}

func TestP6_4NameWords(t *testing.T) {
	for _, list := range [][]string{words(allBytes(), 2), words("aZ_09 -\xff", 5), spoiled("abcdefghijklmno"), spoiled("abcdefghijklmnop")} {
		for _, s := range list {
			checkName(t, s, len(s) <= 16 && nameForm.MatchString(s))
		}
	}
}
