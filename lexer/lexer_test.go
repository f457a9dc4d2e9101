package lexer

import (
	"fmt"
	"math/big"
	"regexp"
	"slices"
	"strings"
	"testing"

	"frustum/api"
)

// The rules of the chapter: what separates tokens, the tokens, and the bytes at which a token begins.
var (
	separatorRule = regexp.MustCompile(`^(?:[ \t\n]|//[^\n]*)+`)
	wordRule      = regexp.MustCompile(`^[A-Za-z_][A-Za-z0-9_]*`)
	numberRule    = regexp.MustCompile(`^(?:0|[1-9][0-9]*)(?:\.[0-9]{1,5})?`)
	attachedRule  = regexp.MustCompile(`^[A-Za-z0-9_]`)
	signRule      = regexp.MustCompile(`^(?:==|!=|<=|>=|<<|>>|->|[(){},;:.\[\]=+\-*/%&|^!<>])`)
	firstRule     = regexp.MustCompile(`^[A-Za-z0-9_(){},;:.\[\]=+\-*/%&|^!<>]`)
)

// word, number, decimal, sign and end return tokens.
func word(text string, line int) api.Token {
	return api.Token{Kind: api.WordToken, Text: text, Line: line}
}

func number(text string, value, line int) api.Token {
	return api.Token{Kind: api.IntToken, Text: text, Value: value, Line: line}
}

func decimal(text string, value, line int) api.Token {
	return api.Token{Kind: api.FixedToken, Text: text, Value: value, Line: line}
}

func sign(text string, line int) api.Token {
	return api.Token{Kind: api.SignToken, Text: text, Line: line}
}

func end(line int) api.Token {
	return api.Token{Kind: api.EndToken, Line: line}
}

// expectedNumber returns the token of a number that is not malformed, with its exact value, and whether that is too large.
func expectedNumber(text string, line int) (api.Token, bool) {
	whole, digits, hasPoint := strings.Cut(text, ".")
	value, _ := new(big.Int).SetString(whole, 10)
	if !hasPoint {
		return number(text, int(value.Int64()), line), value.Cmp(big.NewInt(2147483647)) > 0
	}
	// The rounded quotient is the floor of the quotient plus a half, so that halves are rounded up.
	power := new(big.Int).Exp(big.NewInt(10), big.NewInt(int64(len(digits))), nil)
	all, _ := new(big.Int).SetString(whole+digits, 10)
	all.Mul(all, big.NewInt(2*65536)).Add(all, power)
	all.Div(all, power.Lsh(power, 1))
	return decimal(text, int(all.Int64()), line), all.Cmp(big.NewInt(536870911)) > 0
}

// expectedLex returns what Lex must return, rule by rule.
func expectedLex(text string) ([]api.Token, int, api.Errno) {
	if len(text) > 16384 {
		return nil, 0, api.ErrTooLong
	}
	var tokens []api.Token
	line, rest := 1, text
	for {
		separator := separatorRule.FindString(rest)
		line += strings.Count(separator, "\n")
		rest = rest[len(separator):]
		if rest == "" {
			return append(tokens, end(line)), 0, api.OK
		}
		if !firstRule.MatchString(rest) {
			return nil, line, api.ErrSyntax
		}
		if len(tokens) == 4000 {
			return nil, line, api.ErrFull
		}
		token, tooLarge := api.Token{}, false
		if found := wordRule.FindString(rest); found != "" {
			token = word(found, line)
		} else if found := signRule.FindString(rest); found != "" {
			token = sign(found, line)
		} else {
			found := numberRule.FindString(rest)
			if attachedRule.MatchString(rest[len(found):]) {
				return nil, line, api.ErrSyntax
			}
			token, tooLarge = expectedNumber(found, line)
		}
		if tooLarge {
			return nil, line, api.ErrRange
		}
		tokens = append(tokens, token)
		rest = rest[len(token.Text):]
	}
}

// shown returns a text for a message, cut off.
func shown(text string) string {
	if len(text) > 200 {
		return text[:100] + " ... " + text[len(text)-100:]
	}
	return text
}

// listed returns the first tokens for a message.
func listed(tokens []api.Token) string {
	return shown(fmt.Sprint(tokens[:min(len(tokens), 20)]))
}

// checkTokens checks the tokens that Lex returns, and that the memory of results is their own.
func checkTokens(t *testing.T, text string, want []api.Token) {
	t.Helper()
	first, line, code := Lex(text)
	if !slices.Equal(first, want) || line != 0 || code != api.OK {
		t.Errorf("Lex(%q) is %s, %d, %d, want %s", shown(text), listed(first), line, code, listed(want))
		return
	}
	second, _, _ := Lex(text)
	clear(first[:cap(first)])
	if !slices.Equal(second, want) {
		t.Error("results of Lex share memory")
	}
}

// checkError checks the error that Lex returns.
func checkError(t *testing.T, text string, line int, code api.Errno) {
	t.Helper()
	tokens, gotLine, got := Lex(text)
	if tokens != nil || gotLine != line || got != code {
		t.Errorf("Lex(%q) is %s, %d, %d, want line %d and error %d", shown(text), listed(tokens), gotLine, got, line, code)
	}
}

// checkLex checks whatever Lex returns by the rules.
func checkLex(t *testing.T, text string) {
	t.Helper()
	tokens, line, code := expectedLex(text)
	if code != api.OK {
		checkError(t, text, line, code)
		return
	}
	checkTokens(t, text, tokens)
}

func TestP17_1Examples(t *testing.T) {
	checkTokens(t, "a<=1.5", []api.Token{word("a", 1), sign("<=", 1), decimal("1.5", 98304, 1), end(1)})
	checkError(t, "01", 1, api.ErrSyntax)
	checkTokens(t, "fn f(x: fixed) -> int {\n\treturn x // the end\n\t\t>> 2;\n}\n", []api.Token{
		word("fn", 1), word("f", 1), sign("(", 1), word("x", 1), sign(":", 1), word("fixed", 1), sign(")", 1), sign("->", 1), word("int", 1), sign("{", 1),
		word("return", 2), word("x", 2), sign(">>", 3), number("2", 2, 3), sign(";", 3), sign("}", 4), end(5),
	})
	checkTokens(t, "let a=b[12].x*-0.25;", []api.Token{word("let", 1), word("a", 1), sign("=", 1), word("b", 1), sign("[", 1), number("12", 12, 1), sign("]", 1), sign(".", 1), word("x", 1), sign("*", 1), sign("-", 1), decimal("0.25", 16384, 1), sign(";", 1), end(1)})
	checkTokens(t, "true false vec4 shader", []api.Token{word("true", 1), word("false", 1), word("vec4", 1), word("shader", 1), end(1)})
}

func TestP17_1Separators(t *testing.T) {
	for _, c := range []struct {
		text string
		line int
	}{
		{"", 1}, {" ", 1}, {"\t", 1}, {"\n", 2}, {"\n\n\n", 4}, {" \t \n\t", 2}, {"//", 1}, {"// a 01 #", 1}, {"//\n", 2}, {"// a\n// b", 2}, {"// a\n\n\t// b\n", 4}, {"////", 1}, {"// \xff\x00\r\x80 \n ", 2}, {"//\n//\n//", 3},
	} {
		checkTokens(t, c.text, []api.Token{end(c.line)})
		checkTokens(t, c.text+"\na", []api.Token{word("a", c.line+1), end(c.line + 1)})
		checkTokens(t, "a"+c.text, []api.Token{word("a", 1), end(c.line)})
	}
	checkTokens(t, "a//b", []api.Token{word("a", 1), end(1)})
	checkTokens(t, "1//2\n3", []api.Token{number("1", 1, 1), number("3", 3, 2), end(2)})
	checkTokens(t, "1.5//2", []api.Token{decimal("1.5", 98304, 1), end(1)})
	checkTokens(t, "a / / b", []api.Token{word("a", 1), sign("/", 1), sign("/", 1), word("b", 1), end(1)})
	checkTokens(t, "a/ //b\n/c", []api.Token{word("a", 1), sign("/", 1), sign("/", 2), word("c", 2), end(2)})
	checkTokens(t, "a/\n/b", []api.Token{word("a", 1), sign("/", 1), sign("/", 2), word("b", 2), end(2)})
	checkTokens(t, "=//=\n=", []api.Token{sign("=", 1), sign("=", 2), end(2)})
	checkTokens(t, "/*a*/", []api.Token{sign("/", 1), sign("*", 1), word("a", 1), sign("*", 1), sign("/", 1), end(1)})
	// What separates tokens also separates those that would be one without it.
	checkTokens(t, "a b\tc\nd//\ne", []api.Token{word("a", 1), word("b", 1), word("c", 1), word("d", 2), word("e", 3), end(3)})
	checkTokens(t, "= =\t=\n=", []api.Token{sign("=", 1), sign("=", 1), sign("=", 1), sign("=", 2), end(2)})
	checkTokens(t, "0 1 .5 1. 5\n1\n.5", []api.Token{number("0", 0, 1), number("1", 1, 1), sign(".", 1), number("5", 5, 1), number("1", 1, 1), sign(".", 1), number("5", 5, 1), number("1", 1, 2), sign(".", 3), number("5", 5, 3), end(3)})
	checkTokens(t, "1 a", []api.Token{number("1", 1, 1), word("a", 1), end(1)})
}

// TestP17_1Bytes lexes each byte alone, behind a token of each kind, in front of them, and in comments.
func TestP17_1Bytes(t *testing.T) {
	allowed := " \t\n(){},;:.[]=+-*/%&|^!<>_0123456789abcdefghijklmnopqrstuvwxyzABCDEFGHIJKLMNOPQRSTUVWXYZ"
	for b := range 256 {
		x := string([]byte{byte(b)})
		if !strings.Contains(allowed, x) {
			checkError(t, x, 1, api.ErrSyntax)
			checkError(t, "a"+x, 1, api.ErrSyntax)
			checkError(t, "a\n "+x, 2, api.ErrSyntax)
		}
		for _, text := range []string{x, "a" + x, "1" + x, "1.5" + x, "=" + x, "<" + x, "/" + x, "." + x, "-" + x, "!" + x, x + "a", x + "1", x + "=", x + ">", "a " + x, "a\n" + x + "\n", x + x, x + x + x} {
			checkLex(t, text)
		}
		if b != '\n' {
			checkTokens(t, "a//"+x+"\nb", []api.Token{word("a", 1), word("b", 2), end(2)})
			checkTokens(t, "//"+x+"01", []api.Token{end(1)})
		}
	}
}

// allSigns returns all signs, the short ones first.
func allSigns() []string {
	return []string{"(", ")", "{", "}", ",", ";", ":", ".", "[", "]", "=", "+", "-", "*", "/", "%", "&", "|", "^", "!", "<", ">", "==", "!=", "<=", ">=", "<<", ">>", "->"}
}

func TestP17_1Signs(t *testing.T) {
	signs := allSigns()
	for _, a := range signs {
		checkTokens(t, a, []api.Token{sign(a, 1), end(1)})
		checkTokens(t, "a"+a+"1 "+a+"\n"+a, []api.Token{word("a", 1), sign(a, 1), number("1", 1, 1), sign(a, 1), sign(a, 2), end(2)})
		for _, b := range signs {
			checkTokens(t, a+" "+b, []api.Token{sign(a, 1), sign(b, 1), end(1)})
			checkLex(t, a+b)
			for _, c := range signs {
				checkLex(t, a+b+c)
			}
		}
	}
	// Of two bytes of signs, those of a longer sign are one token.
	for _, a := range signs[:22] {
		for _, b := range signs[:22] {
			switch both := a + b; {
			case slices.Contains(signs[22:], both):
				checkTokens(t, both, []api.Token{sign(both, 1), end(1)})
			case both == "//":
				checkTokens(t, both, []api.Token{end(1)})
			default:
				checkTokens(t, both, []api.Token{sign(a, 1), sign(b, 1), end(1)})
			}
		}
	}
	checkTokens(t, "===", []api.Token{sign("==", 1), sign("=", 1), end(1)})
	checkTokens(t, "<<=>>=", []api.Token{sign("<<", 1), sign("=", 1), sign(">>", 1), sign("=", 1), end(1)})
	checkTokens(t, "-->--", []api.Token{sign("-", 1), sign("->", 1), sign("-", 1), sign("-", 1), end(1)})
	checkTokens(t, "!==!!", []api.Token{sign("!=", 1), sign("=", 1), sign("!", 1), sign("!", 1), end(1)})
}

func TestP17_1Words(t *testing.T) {
	long := strings.Repeat("aZ_9", 2000)
	for _, text := range []string{"a", "z", "A", "Z", "_", "__", "_0", "_9", "a0", "a9", "z9_", "Aa", "aA", "zZ", "Zz", "_a", "_Z", "a_", "Z_", "a1b2c3", "x0y", "_1_", "e5", "vec5", "ifx", "If", "trueish", long} {
		checkTokens(t, text, []api.Token{word(text, 1), end(1)})
		checkTokens(t, " "+text+"\n"+text+"+", []api.Token{word(text, 1), word(text, 2), sign("+", 2), end(2)})
		checkTokens(t, "."+text+".5", []api.Token{sign(".", 1), word(text, 1), sign(".", 1), number("5", 5, 1), end(1)})
		checkError(t, text+"\n5"+text, 2, api.ErrSyntax)
		// The bytes next to the letters and digits end a word.
		for _, after := range []string{"@", "[", "`", "{", "/", ":", "^", "$", "\x80", "\xe1", "\xc3\xa9", "\x00", "\r"} {
			checkLex(t, text+after)
			checkLex(t, text+after+"b")
		}
	}
	// A letter is one of the alphabet, not of another one.
	checkError(t, "\u00e9", 1, api.ErrSyntax)
	checkError(t, "a\u00e9", 1, api.ErrSyntax)
	checkError(t, "\uff11", 1, api.ErrSyntax)
	checkError(t, "a\u00a0b", 1, api.ErrSyntax)
}

func TestP17_1Integers(t *testing.T) {
	for text, value := range map[string]int{"0": 0, "1": 1, "9": 9, "10": 10, "100": 100, "65536": 65536, "1000000000": 1000000000, "2147483646": 2147483646, "2147483647": 2147483647} {
		checkTokens(t, text, []api.Token{number(text, value, 1), end(1)})
		checkTokens(t, "-"+text+" "+text+";", []api.Token{sign("-", 1), number(text, value, 1), number(text, value, 1), sign(";", 1), end(1)})
	}
	for _, text := range []string{"2147483648", "2147483649", "2147483650", "3000000000", "4294967295", "4294967296", "4294967297", "10000000000", "4611686018427387904", "4611686018427387905", "9223372036854775807", "9223372036854775808", "18446744073709551615", "18446744073709551616", "18446744073709551617", "1" + strings.Repeat("0", 100), strings.Repeat("9", 16384)} {
		checkError(t, text, 1, api.ErrRange)
		if len(text) < 16000 {
			checkError(t, "a\n\n-"+text+" #", 3, api.ErrRange)
			// The point belongs to the number only with a digit behind it.
			checkError(t, text+".", 1, api.ErrRange)
			checkError(t, text+".x", 1, api.ErrRange)
		}
	}
	for _, text := range []string{"00", "01", "09", "000", "010", "0000000001", "02147483647", "02147483648", "099999999999999999999", strings.Repeat("0", 16384)} {
		checkError(t, text, 1, api.ErrSyntax)
		if len(text) < 16000 {
			checkError(t, "1\n"+text+";", 2, api.ErrSyntax)
			checkError(t, text+".5", 1, api.ErrSyntax)
			checkError(t, text+".", 1, api.ErrSyntax)
		}
	}
}

func TestP17_1Fixed(t *testing.T) {
	for text, value := range map[string]int{
		"0.0": 0, "0.00000": 0, "0.00001": 1, "0.5": 32768, "0.50": 32768, "0.50000": 32768, "1.0": 65536, "1.5": 98304, "1.50": 98304, "0.1": 6554, "0.25": 16384, "0.125": 8192, "0.0625": 4096, "0.03125": 2048, "0.99999": 65535, "1.00001": 65537, "0.00002": 1, "0.00003": 2, "12.34": 808714, "100.0": 6553600,
		"8191.0": 536805376, "8191.9999": 536870905, "8191.99998": 536870911, "8191.99999": 536870911,
	} {
		checkTokens(t, text, []api.Token{decimal(text, value, 1), end(1)})
		checkTokens(t, "-"+text+"\n"+text+";", []api.Token{sign("-", 1), decimal(text, value, 1), decimal(text, value, 2), sign(";", 2), end(2)})
		checkTokens(t, text+"."+text+"..5", []api.Token{decimal(text, value, 1), sign(".", 1), decimal(text, value, 1), sign(".", 1), sign(".", 1), number("5", 5, 1), end(1)})
		whole, digits, _ := strings.Cut(text, ".")
		padded := text + strings.Repeat("0", 5-len(digits))
		checkTokens(t, padded, []api.Token{decimal(padded, value, 1), end(1)})
		for _, more := range []string{"0", "1", "9", "00", "123456789"} {
			checkError(t, padded+more, 1, api.ErrSyntax)
			checkError(t, "a\nb "+padded+more+" ", 2, api.ErrSyntax)
		}
		checkError(t, "0"+whole+"."+digits, 1, api.ErrSyntax)
	}
	for _, text := range []string{"8192.0", "8192.00000", "8192.00001", "8192.5", "8193.0", "65536.0", "2147483647.5", "2147483648.0", "281474976710656.0", "281474976710657.0", "4611686018427387904.5", "9223372036854775808.0", "18446744073709551616.0", "18446744073709551617.5", strings.Repeat("9", 300) + ".9"} {
		checkError(t, text, 1, api.ErrRange)
		checkError(t, "x\n"+text+".", 2, api.ErrRange)
	}
	for i := range 8200 {
		for _, digits := range []string{"0", "5", "99999", "99998", "00001"} {
			if i < 3 || i > 8180 || i%1000 == 0 {
				checkLex(t, strings.Join([]string{big.NewInt(int64(i)).String(), digits}, "."))
			}
		}
	}
}

// TestP17_1Digits lexes all digits behind the point.
func TestP17_1Digits(t *testing.T) {
	power := 1
	for count := 1; count <= 5; count++ {
		power *= 10
		for f := range power {
			digits := big.NewInt(int64(power + f)).String()[1:]
			tokens, line, code := Lex("7." + digits)
			if value := (2*(7*power+f)*65536 + power) / (2 * power); code != api.OK || line != 0 || len(tokens) != 2 || tokens[0].Value != value || tokens[0].Text != "7."+digits {
				t.Errorf("Lex(7.%s) is %v, %d, %d, want %d", digits, tokens, line, code, value)
			}
		}
	}
}

// TestP17_1Points lexes points without a digit behind them or in front of them, which are signs.
func TestP17_1Points(t *testing.T) {
	checkTokens(t, "1.", []api.Token{number("1", 1, 1), sign(".", 1), end(1)})
	checkTokens(t, ".5", []api.Token{sign(".", 1), number("5", 5, 1), end(1)})
	checkTokens(t, "1. 5", []api.Token{number("1", 1, 1), sign(".", 1), number("5", 5, 1), end(1)})
	checkTokens(t, "1 .5", []api.Token{number("1", 1, 1), sign(".", 1), number("5", 5, 1), end(1)})
	checkTokens(t, "1..5", []api.Token{number("1", 1, 1), sign(".", 1), sign(".", 1), number("5", 5, 1), end(1)})
	checkTokens(t, "0.x", []api.Token{number("0", 0, 1), sign(".", 1), word("x", 1), end(1)})
	checkTokens(t, "1._", []api.Token{number("1", 1, 1), sign(".", 1), word("_", 1), end(1)})
	checkTokens(t, "1.//5", []api.Token{number("1", 1, 1), sign(".", 1), end(1)})
	checkTokens(t, "1.\n5", []api.Token{number("1", 1, 1), sign(".", 1), number("5", 5, 2), end(2)})
	checkTokens(t, "1.2.3", []api.Token{decimal("1.2", 78643, 1), sign(".", 1), number("3", 3, 1), end(1)})
	checkTokens(t, "1.5.x", []api.Token{decimal("1.5", 98304, 1), sign(".", 1), word("x", 1), end(1)})
	checkTokens(t, "a.5", []api.Token{word("a", 1), sign(".", 1), number("5", 5, 1), end(1)})
	checkTokens(t, "a1.5", []api.Token{word("a1", 1), sign(".", 1), number("5", 5, 1), end(1)})
	checkTokens(t, "..", []api.Token{sign(".", 1), sign(".", 1), end(1)})
	checkTokens(t, "-.5", []api.Token{sign("-", 1), sign(".", 1), number("5", 5, 1), end(1)})
	checkError(t, ".05", 1, api.ErrSyntax)
	checkError(t, "1.#", 1, api.ErrSyntax)
	checkError(t, "1 .2147483648", 1, api.ErrRange)
}

// TestP17_1Attached lexes numbers that a letter or "_" follows directly, also where they are too large.
func TestP17_1Attached(t *testing.T) {
	for _, text := range []string{"0", "1", "7", "12", "2147483647", "2147483648", "99999999999999999999", "1.5", "0.0", "1.00000", "1.000000", "8192.0", "99999999999999999999.5", "01", "00.5"} {
		for _, after := range []string{"a", "z", "A", "Z", "_", "e", "e5", "x10", "_1", "h", "f"} {
			checkError(t, text+after, 1, api.ErrSyntax)
			checkError(t, "a\n\n "+text+after+" b", 3, api.ErrSyntax)
			checkError(t, "-"+text+after+".", 1, api.ErrSyntax)
		}
	}
}

// TestP17_1First puts two errors into a text, in one line and in two, of which the first one determines the result.
func TestP17_1First(t *testing.T) {
	errors := []struct {
		text string
		code api.Errno
	}{{"#", api.ErrSyntax}, {"01", api.ErrSyntax}, {"1a", api.ErrSyntax}, {"1.000000", api.ErrSyntax}, {"\x80", api.ErrSyntax}, {"\r", api.ErrSyntax}, {"2147483648", api.ErrRange}, {"8192.0", api.ErrRange}}
	for _, a := range errors {
		checkError(t, a.text, 1, a.code)
		checkError(t, "\n// #\n\tlet x = "+a.text+";\n", 3, a.code)
		checkError(t, strings.Repeat("a 1 1.5 ;\n", 900)+a.text, 901, a.code)
		for _, b := range errors {
			for _, between := range []string{" ", "\n", " a; ", "\n b = 1;\n"} {
				checkError(t, a.text+between+b.text, 1, a.code)
				checkError(t, "(\n//\n)"+a.text+between+b.text, 3, a.code)
			}
		}
	}
	// A number that is malformed and too large is malformed.
	for _, text := range []string{"02147483648", "2147483648a", "8192.000000", "08192.0", "8192.0_", "99999999999999999999b"} {
		checkError(t, text, 1, api.ErrSyntax)
	}
}

func TestP17_1Length(t *testing.T) {
	for _, unit := range []string{"a", " ", "\n", "// ", "\xff", "#", "0", "9", "aaa ", "(", "=="} {
		full := strings.Repeat(unit, 16384)[:16384]
		checkLex(t, full)
		checkLex(t, full[:16383])
		for _, more := range []string{"a", " ", "\n", "#", full} {
			checkError(t, full+more, 0, api.ErrTooLong)
		}
	}
	comment := "a // " + strings.Repeat("x", 16379)
	checkTokens(t, comment, []api.Token{word("a", 1), end(1)})
	checkError(t, comment+"x", 0, api.ErrTooLong)
	checkTokens(t, strings.Repeat("\n", 16383)+"a", []api.Token{word("a", 16384), end(16384)})
}

// TestP17_1Full lexes 4000 tokens of each kind, with and without others behind them.
func TestP17_1Full(t *testing.T) {
	for _, c := range []struct {
		unit  string
		token api.Token
	}{{"a ", word("a", 1)}, {"7 ", number("7", 7, 1)}, {"1.5 ", decimal("1.5", 98304, 1)}, {"(", sign("(", 1)}, {"->", sign("->", 1)}} {
		full := strings.Repeat(c.unit, 4000)
		want := append(slices.Repeat([]api.Token{c.token}, 4000), end(1))
		checkTokens(t, full[:len(full)-len(c.unit)], append(slices.Clone(want[:3999]), end(1)))
		checkTokens(t, full, want)
		want[4000] = end(3)
		for _, separator := range []string{"\n\n", "\n \t// a\n", " \n\n//#", "\n\n ", "\n//\n"} {
			checkTokens(t, full+separator, want)
		}
		// The token that is one too many is not scanned, so that it may be malformed or too large.
		for _, more := range []string{"a", "(", "0", "7", "1.5", "==", "=", "!", ".", "_", "/", "/ /", "01", "1a", "1.000000", "2147483648", "8192.0", "a#", "a\n#", "; a", "a\n\n01", "a b"} {
			checkError(t, full+more, 1, api.ErrFull)
			checkError(t, full+"\n\n"+more, 3, api.ErrFull)
			checkError(t, full+"// \n"+more, 2, api.ErrFull)
		}
		for _, more := range []string{"#", "\r", "\x00", "\x80", "\xff", "@", "$", "'", "\"", "~", "?", "\\", "`"} {
			checkError(t, full+more, 1, api.ErrSyntax)
			checkError(t, full+"\n \n"+more+" a", 3, api.ErrSyntax)
		}
		// An error among the first tokens comes before those that are too many.
		checkError(t, "\n2147483648 "+full, 2, api.ErrRange)
		checkError(t, "01 "+full, 1, api.ErrSyntax)
		checkError(t, full[:len(full)-len(c.unit)]+"\n01 a", 2, api.ErrSyntax)
		checkError(t, full[:len(full)-len(c.unit)]+"\n8192.0 a", 2, api.ErrRange)
	}
}

// texts calls a function with all texts of a length of these parts.
func texts(length int, parts []string, function func(text string)) {
	if length == 0 {
		function("")
		return
	}
	for _, part := range parts {
		texts(length-1, parts, func(text string) { function(part + text) })
	}
}

// TestP17_1AllTexts compares Lex with the rules for all short texts of telling bytes.
func TestP17_1AllTexts(t *testing.T) {
	for length := range 5 {
		texts(length, []string{"a", "Z", "_", "0", "1", "9", ".", "=", "<", "-", ">", "!", "/", "*", " ", "\n", "#", "\xc3"}, func(text string) { checkLex(t, text) })
	}
	for length := 5; length <= 7; length++ {
		texts(length, []string{"a", "0", "5", ".", "/", "\n"}, func(text string) { checkLex(t, text) })
	}
	for length := range 6 {
		texts(length, []string{"8192", "2147483647", "2147483648", "00000", ".", "x", " "}, func(text string) { checkLex(t, text) })
	}
}

// TestP17_1Arbitrary compares Lex with the rules for arbitrary texts of tokens, separators, and seldom other bytes.
func TestP17_1Arbitrary(t *testing.T) {
	parts := slices.Concat(allSigns(), []string{"a", "b1", "_", "vec3", "0", "1", "23", "0.5", "1.25", "7.00001", " ", " ", "\t", "\n", "// c\n", "  "})
	state := uint64(7)
	next := func(beyond int) int {
		state = state*6364136223846793005 + 1442695040888963407
		return int(state>>33) % beyond
	}
	for range 3000 {
		var text strings.Builder
		for range next(80) {
			text.WriteString(parts[next(len(parts))])
			if next(2) == 0 {
				text.WriteString(" ")
			}
			if next(100) == 0 {
				text.WriteByte(byte(next(256)))
			}
		}
		checkLex(t, text.String())
	}
}
