package lexer

import (
	"slices"
	"strings"
	"testing"

	"frustum/api"
)

// typeWords and otherKeywords return the keywords.
func typeWords() []string {
	return []string{"fixed", "half", "int", "bool", "vec2", "vec3", "vec4"}
}

func otherKeywords() []string {
	return strings.Fields("shader vertex geometry fragment struct uniform texture buffer in out fn return main let if else loop break continue discard emit cut true false")
}

// similar returns texts that differ from s by a letter more, a letter less, the case of letters, or a separator.
func similar(s string) []string {
	result := []string{strings.ToUpper(s), s + " ", " " + s, s + "\n", s + "\x00", s + s, s + "=", s + "_", "_" + s, s + "1", s + "s", "a" + s, s[1:], s[:len(s)-1]}
	for i := range s {
		result = append(result, s[:i]+strings.ToUpper(s[i:i+1])+s[i+1:], s[:i]+s[i+1:], s[:i]+s[i:i+1]+s[i:], s[:i]+"#"+s[i+1:])
	}
	return result
}

func TestP17_2Words(t *testing.T) {
	types, keywords := typeWords(), slices.Concat(typeWords(), otherKeywords())
	if len(types) != 7 || len(keywords) != 31 {
		t.Fatal("the test is wrong")
	}
	all := slices.Concat(keywords, allSigns(), []string{"", "a", "x", "vec", "vec1", "vec5", "float", "uint", "Fixed", "MAIN", "func", "for", "while", "var", "discarded", "el", "se", "i", "f", "o", "0", "1", "1.5", " ", "\xff"})
	for _, keyword := range keywords {
		all = append(all, similar(keyword)...)
	}
	for _, s := range all {
		if got := IsKeyword(s); got != slices.Contains(keywords, s) {
			t.Errorf("whether %q is a keyword: %t", s, got)
		}
		if got := IsTypeWord(s); got != slices.Contains(types, s) {
			t.Errorf("whether %q is a type word: %t", s, got)
		}
	}
}

func TestP17_2Signs(t *testing.T) {
	signs := allSigns()
	if len(signs) != 29 {
		t.Fatal("the test is wrong")
	}
	all := slices.Concat(signs, typeWords(), otherKeywords(), []string{"", "//", "=>", "<>", "><", "=<", "=!", "&&", "||", "++", "--", "**", "+=", "-=", "...", "===", "<<=", ">>=", "->>", "<-", "a", "0", "_"})
	for b := range 256 {
		all = append(all, string([]byte{byte(b)}))
		for c := range 256 {
			all = append(all, string([]byte{byte(b), byte(c)}))
		}
	}
	for _, sign := range signs {
		all = append(all, similar(sign)...)
	}
	for _, s := range all {
		if got := IsSign(s); got != slices.Contains(signs, s) {
			t.Errorf("whether %q is a sign: %t", s, got)
		}
	}
}

func TestP17_2Lines(t *testing.T) {
	for text, want := range map[string]int{"": 1, "a": 1, " ": 1, "\n": 2, "a\n": 2, "\na": 2, "a\nb": 2, "\n\n": 3, "a\n\nb\n": 4, "\r": 1, "\r\n": 2, "// \n //": 2, "\v\f": 1, "\u2028": 1, "\xff\n\xff": 2, "\\n": 1, strings.Repeat("\n", 16384): 16385, strings.Repeat("a\n", 50000): 50001, strings.Repeat("a", 50000): 1} {
		if got := Lines(text); got != want {
			t.Errorf("%q has %d lines, want %d", shown(text), got, want)
		}
	}
}

// checkText checks the text of tokens, and that they are not changed.
func checkText(t *testing.T, tokens []api.Token, want string) {
	t.Helper()
	room := append(slices.Clone(tokens), word("behind", 1), end(9))
	before := slices.Clone(room)
	if got := Text(room[:len(tokens)]); got != want {
		t.Errorf("the text of %s is %q, want %q", listed(tokens), shown(got), shown(want))
	}
	if !slices.Equal(room, before) {
		t.Errorf("Text changed %s to %s", listed(before), listed(room))
	}
}

func TestP17_2Text(t *testing.T) {
	a, one, half, less := word("a", 1), number("1", 1, 1), decimal("0.5", 32768, 1), sign("<=", 2)
	for _, c := range []struct {
		tokens []api.Token
		want   string
	}{
		{nil, ""}, {[]api.Token{}, ""}, {[]api.Token{end(1)}, ""}, {[]api.Token{end(1), end(2), end(3)}, ""}, {[]api.Token{a}, "a"}, {[]api.Token{one}, "1"}, {[]api.Token{half}, "0.5"}, {[]api.Token{less}, "<="}, {[]api.Token{a, end(1)}, "a"}, {[]api.Token{a, less, half, end(2)}, "a <= 0.5"}, {[]api.Token{a, a, a}, "a a a"},
		{[]api.Token{end(1), a, one}, "a 1"}, {[]api.Token{a, end(1), one}, "a 1"}, {[]api.Token{end(1), end(1), a, end(1), end(1), one, end(1), end(1)}, "a 1"},
		// The text of an end does not count, and the other fields of a token do not either.
		{[]api.Token{a, {Kind: api.EndToken, Text: "x", Line: 1}, one}, "a 1"}, {[]api.Token{{Kind: api.IntToken, Text: "7", Value: 8, Line: -1}, {Kind: api.FixedToken, Text: "2.50", Value: 1}}, "7 2.50"},
		// Tokens that Lex does not return have a text, too.
		{[]api.Token{{Kind: 0, Text: "x"}, {Kind: 6, Text: "y"}, {Kind: -1, Text: "a b"}}, "x y a b"}, {[]api.Token{{Kind: api.WordToken}, {Kind: api.WordToken}, a}, "  a"}, {[]api.Token{{Kind: api.WordToken, Text: "\xff\n"}, a}, "\xff\n a"},
	} {
		checkText(t, c.tokens, c.want)
	}
	checkText(t, slices.Repeat([]api.Token{a, end(1)}, 5000), strings.TrimSuffix(strings.Repeat("a ", 5000), " "))
}

// checkRestored checks that the text of the tokens of a text has the same tokens, all in line 1.
func checkRestored(t *testing.T, text string) {
	t.Helper()
	tokens, _, code := Lex(text)
	if code != api.OK {
		t.Errorf("Lex(%q) is %d", shown(text), code)
	}
	restored := Text(tokens)
	for i := range tokens {
		tokens[i].Line = 1
	}
	if len(restored) > 16384 {
		checkError(t, restored, 0, api.ErrTooLong)
		return
	}
	checkTokens(t, restored, tokens)
	if again := Text(tokens); again != restored {
		t.Errorf("the text %q becomes %q", shown(restored), shown(again))
	}
}

func TestP17_3(t *testing.T) {
	for _, text := range []string{"", "\n\n", "// a", "a<=1.5", "1.", "1..5", ".5.5", "1.2.3", "===", "<<=>>", "-->", "!==", "a//b\n/ /c", "=//\n=", "< =", "0\n0.00\n0.50000", "2147483647 8191.99999", "f(x,y)->z;", "a.b[1].c"} {
		checkRestored(t, text)
	}
	for _, unit := range []string{"a ", "1\n", "(", "->", "1.5\t", "a=1;"} {
		for _, count := range []int{1, 2, 500, 1000, 4000} {
			if len(unit)*count <= 16384 && (unit != "a=1;" || count <= 1000) {
				checkRestored(t, strings.Repeat(unit, count))
			}
		}
	}
	// Its own text is too long for Lex.
	checkRestored(t, strings.Repeat("(abc+12)", 700)+strings.Repeat("(-)", 100))
	checkRestored(t, strings.Repeat("abcdefg+", 2000))
	checkRestored(t, strings.Repeat("a", 16382)+"+b")
}

// TestP17_3AllTexts restores all short texts of telling bytes that have tokens.
func TestP17_3AllTexts(t *testing.T) {
	for length := range 6 {
		texts(length, []string{"a", "0", "7", ".", "=", "-", ">", "/", " ", "\n"}, func(text string) {
			if _, _, code := Lex(text); code == api.OK {
				checkRestored(t, text)
			}
		})
	}
}
