package format

import (
	"fmt"
	"math"
	"math/big"
	"regexp"
	"slices"
	"strings"
	"testing"

	"frustum/api"
)

const (
	largest  = math.MaxInt
	smallest = math.MinInt
)

// integerForm is the decimal form of an integer of any size.
var integerForm = regexp.MustCompile(`^(0|-?[1-9][0-9]*)$`)

// exactInt returns the exact integer that is written by digits with an optional minus sign.
func exactInt(s string) *big.Int {
	n, _ := new(big.Int).SetString(s, 10)
	return n
}

// expectedInt returns what ParseInt must return, rule by rule of P6.1.
func expectedInt(s string) (int, api.Errno) {
	if !integerForm.MatchString(s) {
		return 0, api.ErrSyntax
	}
	n := exactInt(s)
	if n.CmpAbs(new(big.Int).Lsh(big.NewInt(1), 62)) > 0 {
		return 0, api.ErrRange
	}
	return int(n.Int64()), api.OK
}

// formOf returns the decimal form of an int, digit by digit, by exact arithmetic.
func formOf(n int) string {
	if n == 0 {
		return "0"
	}
	rest := new(big.Int).Abs(big.NewInt(int64(n)))
	form := ""
	for rest.Sign() > 0 {
		digit := new(big.Int)
		rest.DivMod(rest, big.NewInt(10), digit)
		form = string(rune('0'+digit.Int64())) + form
	}
	if n < 0 {
		return "-" + form
	}
	return form
}

// arbitrary returns a function that returns arbitrary ints of all magnitudes, the same in each run.
func arbitrary() func() int {
	state := uint64(1)
	return func() int {
		state = state*6364136223846793005 + 1442695040888963407
		return int(state) >> (state >> 32 % 64)
	}
}

// ints returns the smallest and the largest int with each number of digits, those next to them, those next to powers of two, and arbitrary ones.
func ints() []int {
	values := []int{smallest, smallest + 1, smallest + 2, largest, largest - 1, largest - 2}
	for digits, power := 0, 1; digits < 19; digits++ {
		for near := power - 2; near <= power+2; near++ {
			values = append(values, near, -near)
		}
		power *= 10
	}
	for shift := range 63 {
		for near := 1<<shift - 2; near <= 1<<shift+2; near++ {
			values = append(values, near, -near)
		}
	}
	next := arbitrary()
	for range 20000 {
		values = append(values, next())
	}
	return values
}

// words returns all strings of at most a number of bytes that consist of bytes of an alphabet.
func words(alphabet string, length int) []string {
	result := []string{""}
	for from := 0; length > 0; length-- {
		to := len(result)
		for _, word := range result[from:to] {
			for i := range len(alphabet) {
				result = append(result, word+alphabet[i:i+1])
			}
		}
		from = to
	}
	return result
}

// allBytes returns all bytes, in ascending order.
func allBytes() string {
	var all []byte
	for b := range 256 {
		all = append(all, byte(b))
	}
	return string(all)
}

// spoiled returns a string with each byte put before, behind and instead of each of its bytes.
func spoiled(s string) []string {
	var result []string
	all := allBytes()
	for i := range len(all) {
		for at := range len(s) {
			result = append(result, s[:at]+all[i:i+1]+s[at:], s[:at]+all[i:i+1]+s[at+1:])
		}
		result = append(result, s+all[i:i+1])
	}
	return result
}

func checkParseInt(t *testing.T, s string, want int, wantCode api.Errno) {
	t.Helper()
	if n, code := ParseInt(s); n != want || code != wantCode {
		t.Errorf("ParseInt(%.60q) is %d, %d, want %d, %d", s, n, code, want, wantCode)
	}
}

func TestP6_1FormatInt(t *testing.T) {
	for _, c := range []struct {
		n    int
		want string
	}{
		{0, "0"}, {1, "1"}, {-1, "-1"}, {7, "7"}, {9, "9"}, {-9, "-9"}, {10, "10"}, {-10, "-10"}, {99, "99"}, {100, "100"}, {-100, "-100"}, {1234567890, "1234567890"},
		{1<<62 - 1, "4611686018427387903"}, {1 << 62, "4611686018427387904"}, {1<<62 + 1, "4611686018427387905"},
		{-1<<62 + 1, "-4611686018427387903"}, {-1 << 62, "-4611686018427387904"}, {-1<<62 - 1, "-4611686018427387905"},
		{largest, "9223372036854775807"}, {largest - 1, "9223372036854775806"}, {smallest, "-9223372036854775808"}, {smallest + 1, "-9223372036854775807"},
	} {
		if got := FormatInt(c.n); got != c.want {
			t.Errorf("FormatInt(%d) is %q, want %q", c.n, got, c.want)
		}
	}
	for _, n := range ints() {
		if got, want := FormatInt(n), formOf(n); got != want {
			t.Errorf("FormatInt(%d) is %q, want %q", n, got, want)
		}
	}
}

func TestP6_1ParseInt(t *testing.T) {
	for _, c := range []struct {
		s    string
		want int
	}{
		{"0", 0}, {"1", 1}, {"-1", -1}, {"9", 9}, {"-9", -9}, {"10", 10}, {"-10", -10}, {"100", 100}, {"-105", -105}, {"1234567890", 1234567890},
		{"4611686018427387903", 1<<62 - 1}, {"4611686018427387904", 1 << 62}, {"-4611686018427387903", -1<<62 + 1}, {"-4611686018427387904", -1 << 62},
		{"999999999999999999", 999999999999999999}, {"1000000000000000000", 1000000000000000000}, {"-1000000000000000000", -1000000000000000000},
	} {
		checkParseInt(t, c.s, c.want, api.OK)
	}
}

func TestP6_1ParseIntSyntax(t *testing.T) {
	many := strings.Repeat("9", 5000)
	for _, s := range []string{
		"", "-", "--", "+", "-0", "00", "01", "-01", "-00", "+0", "+1", "--1", "-+1", "+-1", "1-", "0-", "1-1", "000", "007", "0x1", "0X1", "0b1", "0o1", "1_0", "1e3", "1E3",
		" ", " 1", "1 ", "1 2", "- 1", " -1", "-1 ", "\t1", "1\t", "1\n", "\n1", "1\r", "\x001", "1\x00", "a", "A", "1a", "a1", "12b4", "inf", "nan", "0f",
		".", "1.", ".1", "1.0", "1.5", "0.0", "-1.0", "1,0", "1'0", "/", ":", "1/", "1:", "/1", ":1", "-/", "-:",
		"\x80", "\xff", "1\xff", "\xff1", "\xb1", "\xef\xbc\x91", "\xd9\xa1", "\xe2\x88\x921", "1\xc2\xa0", "\xef\xbb\xbf1",
		"04611686018427387904", "-04611686018427387904", "+4611686018427387905", "00000000000000000000000", "0" + many, "-0" + many, "+" + many, " " + many,
		many + " ", many + "a", many + ".", many + "-", many + "\x00", many + "\xff", "-" + many + " ", "-" + many + "x", many + ".5", many + " " + many, "--" + many,
		"4611686018427387905 ", "4611686018427387905x", "9223372036854775808.", "-9223372036854775809a", "18446744073709551616-",
	} {
		checkParseInt(t, s, 0, api.ErrSyntax)
	}
}

func TestP6_1ParseIntRange(t *testing.T) {
	for _, s := range []string{
		"4611686018427387905", "4611686018427387906", "-4611686018427387905", "-4611686018427387906", "4611686018427387910", "5000000000000000000", "-5000000000000000000",
		"9223372036854775806", "9223372036854775807", "9223372036854775808", "9223372036854775809", "-9223372036854775807", "-9223372036854775808", "-9223372036854775809",
		"9999999999999999999", "-9999999999999999999", "10000000000000000000", "-10000000000000000000", "18446744073709551615", "18446744073709551616", "18446744073709551617",
		"-18446744073709551615", "-18446744073709551616", "-18446744073709551617", "23058430092136939520", "36893488147419103232", "99999999999999999999", "-99999999999999999999",
		"100000000000000000000", "340282366920938463463374607431768211456", "340282366920938463463374607431768211457", strings.Repeat("9", 5000), "-" + strings.Repeat("9", 5000),
		"1" + strings.Repeat("0", 5000), "-1" + strings.Repeat("0", 5000), "1" + strings.Repeat("0", 5000) + "1", "8" + strings.Repeat("123456789", 100000),
	} {
		checkParseInt(t, s, 0, api.ErrRange)
	}
}

// TestP6_1ParseIntWords compares ParseInt with the rules over all short strings, and over strings that are almost decimal forms.
func TestP6_1ParseIntWords(t *testing.T) {
	lists := [][]string{words(allBytes(), 2), words("-+0129 ./:a", 5)}
	for _, s := range []string{"0", "1", "-1", "10", "-907", "4611686018427387904", "-4611686018427387904", "4611686018427387905", "-9223372036854775809", "100000000000000000000000"} {
		lists = append(lists, spoiled(s))
	}
	for _, list := range lists {
		for _, s := range list {
			want, wantCode := expectedInt(s)
			checkParseInt(t, s, want, wantCode)
		}
	}
}

// TestP6_1ParseIntBounds compares ParseInt with the rules next to each bound, also with more digits than an int has.
func TestP6_1ParseIntBounds(t *testing.T) {
	for shift := 55; shift <= 130; shift++ {
		for near := int64(-300); near <= 300; near++ {
			n := new(big.Int).Lsh(big.NewInt(1), uint(shift))
			n.Add(n, big.NewInt(near))
			for _, s := range []string{n.String(), "-" + n.String()} {
				want, wantCode := expectedInt(s)
				checkParseInt(t, s, want, wantCode)
			}
		}
	}
}

func TestP6_3FormatHash(t *testing.T) {
	for _, c := range []struct {
		hash uint64
		want string
	}{
		{0, "0000000000000000"}, {1, "0000000000000001"}, {9, "0000000000000009"}, {10, "000000000000000a"}, {15, "000000000000000f"}, {16, "0000000000000010"}, {255, "00000000000000ff"},
		{0x0123456789abcdef, "0123456789abcdef"}, {0xfedcba9876543210, "fedcba9876543210"}, {0xcbf29ce484222325, "cbf29ce484222325"},
		{1<<63 - 1, "7fffffffffffffff"}, {1 << 63, "8000000000000000"}, {1<<63 + 1, "8000000000000001"}, {1<<64 - 2, "fffffffffffffffe"}, {1<<64 - 1, "ffffffffffffffff"},
	} {
		if got := FormatHash(c.hash); got != c.want {
			t.Errorf("FormatHash(%#x) is %q, want %q", c.hash, got, c.want)
		}
	}
	for _, n := range ints() {
		if got, want := FormatHash(uint64(n)), fmt.Sprintf("%016x", uint64(n)); got != want {
			t.Errorf("FormatHash(%#x) is %q, want %q", uint64(n), got, want)
		}
	}
	for place := range 16 {
		for digit := range 16 {
			want := []byte("0000000000000000")
			want[15-place] = "0123456789abcdef"[digit]
			if got := FormatHash(uint64(digit) << (4 * place)); got != string(want) {
				t.Errorf("the hash with the digit %d at %d is %q, want %q", digit, place, got, want)
			}
		}
	}
}

// TestP6_5Ints checks that formatted ints are parsed again, as far as ParseInt accepts them.
func TestP6_5Ints(t *testing.T) {
	for _, n := range ints() {
		if n < -1<<62 || n > 1<<62 {
			checkParseInt(t, FormatInt(n), 0, api.ErrRange)
		} else {
			checkParseInt(t, FormatInt(n), n, api.OK)
		}
	}
}

// TestP6_5IntTexts checks that no other text than the decimal form of an int is accepted for it.
func TestP6_5IntTexts(t *testing.T) {
	accepted := 0
	for _, s := range slices.Concat(words("-+0123456789 _.x", 4), spoiled("4611686018427387904"), spoiled("-4611686018427387904")) {
		if n, code := ParseInt(s); code == api.OK {
			accepted++
			if got := FormatInt(n); got != s {
				t.Errorf("%q is accepted as %d, but the decimal form is %q", s, n, got)
			}
		}
	}
	if accepted < 10999 {
		t.Errorf("only %d texts are accepted", accepted)
	}
}
