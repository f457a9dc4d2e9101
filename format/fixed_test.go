package format

import (
	"math/big"
	"regexp"
	"strings"
	"testing"

	"frustum/api"
)

// fixedForm is what ParseFixed accepts, but for the range, and for the minus sign of 0.
var fixedForm = regexp.MustCompile(`^(-?)(0|[1-9][0-9]*)\.([0-9]{1,5})$`)

// tenTo returns 10^k.
func tenTo(k int) *big.Int {
	return new(big.Int).Exp(big.NewInt(10), big.NewInt(int64(k)), nil)
}

// nearest returns n/d rounded to the nearest integer, halves away from zero, for n that is not negative.
func nearest(n, d *big.Int) *big.Int {
	quotient, remainder := new(big.Int).QuoRem(n, d, new(big.Int))
	if remainder.Lsh(remainder, 1).Cmp(d) >= 0 {
		quotient.Add(quotient, big.NewInt(1))
	}
	return quotient
}

// expectedFixed returns what ParseFixed must return, rule by rule of P6.2.
func expectedFixed(s string) (int, api.Errno) {
	parts := fixedForm.FindStringSubmatch(s)
	if parts == nil {
		return 0, api.ErrSyntax
	}
	one := big.NewInt(api.One)
	value := nearest(new(big.Int).Mul(exactInt(parts[3]), one), tenTo(len(parts[3])))
	value.Add(value, new(big.Int).Mul(exactInt(parts[2]), one))
	if parts[1] == "-" {
		if value.Sign() == 0 {
			return 0, api.ErrSyntax
		}
		value.Neg(value)
	}
	if value.CmpAbs(big.NewInt(api.MaxValue)) > 0 {
		return 0, api.ErrRange
	}
	return int(value.Int64()), api.OK
}

// expectedRemainder returns the digits behind the point, k by k of the chapter's definition.
func expectedRemainder(r int) string {
	one := big.NewInt(api.One)
	for k := 1; ; k++ {
		f := nearest(new(big.Int).Mul(big.NewInt(int64(r)), tenTo(k)), one)
		if f.Cmp(tenTo(k)) < 0 && nearest(new(big.Int).Mul(f, one), tenTo(k)).Cmp(big.NewInt(int64(r))) == 0 {
			digits := f.String()
			for len(digits) < k {
				digits = "0" + digits
			}
			return digits
		}
	}
}

// fixedNumbers returns saturated numbers: the bounds, those next to them, those next to multiples of One, and arbitrary ones.
func fixedNumbers() []int {
	var values []int
	for near := range 300 {
		values = append(values, near, -near, api.MaxValue-near, near-api.MaxValue)
	}
	for shift := range 30 {
		for near := 1<<shift - 2; near <= 1<<shift+2; near++ {
			values = append(values, near%(api.MaxValue+1), -near%(api.MaxValue+1))
		}
	}
	next := arbitrary()
	for range 50000 {
		values = append(values, next()%(api.MaxValue+1))
	}
	return values
}

func checkParseFixed(t *testing.T, s string, want int, wantCode api.Errno) {
	t.Helper()
	if x, code := ParseFixed(s); x != want || code != wantCode {
		t.Errorf("ParseFixed(%.60q) is %d, %d, want %d, %d", s, x, code, want, wantCode)
	}
}

func TestP6_2FormatFixed(t *testing.T) {
	for _, c := range []struct {
		x    int
		want string
	}{
		{0, "0.0"}, {98304, "1.5"}, {-98304, "-1.5"}, {1, "0.00002"}, {-1, "-0.00002"}, {2, "0.00003"}, {3, "0.00005"}, {-65536, "-1.0"}, {65536, "1.0"},
		{6554, "0.1"}, {-6554, "-0.1"}, {58982, "0.9"}, {32768, "0.5"}, {-32768, "-0.5"}, {655360, "10.0"}, {-6553600, "-100.0"},
		{16384, "0.25"}, {49152, "0.75"}, {655, "0.01"}, {64881, "0.99"}, {8192, "0.125"}, {66, "0.001"}, {65470, "0.999"}, {-66, "-0.001"},
		{4096, "0.0625"}, {7, "0.0001"}, {65529, "0.9999"}, {2048, "0.03125"}, {65535, "0.99998"}, {65534, "0.99997"}, {-65535, "-0.99998"}, {-65537, "-1.00002"},
		// The fifth digit of these is rounded from exactly a half.
		{1024, "0.01563"}, {3072, "0.04688"}, {-1024, "-0.01563"}, {66560, "1.01563"}, {64512, "0.98438"}, {5120, "0.07813"},
		{131071, "1.99998"}, {131072, "2.0"}, {8191 * 65536, "8191.0"}, {536870911, "8191.99998"}, {536870910, "8191.99997"}, {-536870911, "-8191.99998"}, {-536870910, "-8191.99997"},
	} {
		if got := FormatFixed(c.x); got != c.want {
			t.Errorf("FormatFixed(%d) is %q, want %q", c.x, got, c.want)
		}
	}
}

func TestP6_2FormatFixedRange(t *testing.T) {
	for _, x := range []int{
		api.MaxValue + 1, api.MaxValue + 2, -api.MaxValue - 1, -api.MaxValue - 2, 2 * api.MaxValue, -2 * api.MaxValue, api.MaxValue * api.One, 1<<32 - 1, 1 << 32, 1<<32 + 1, -1 << 32, 1 - 1<<32,
		1 << 62, -1 << 62, largest, largest - 1, largest - api.MaxValue, smallest, smallest + 1, smallest + 2, smallest + api.MaxValue,
	} {
		if got := FormatFixed(x); got != "" {
			t.Errorf("FormatFixed(%d) is %q", x, got)
		}
	}
}

// TestP6_2Remainders compares the digits of all remainders with the definition, with the smallest and the largest integer parts of both signs.
func TestP6_2Remainders(t *testing.T) {
	counts := [6]int{}
	for r := range api.One {
		digits := expectedRemainder(r)
		counts[len(digits)]++
		for _, c := range []struct {
			x    int
			want string
		}{
			{r, "0."}, {api.One + r, "1."}, {9*api.One + r, "9."}, {10*api.One + r, "10."}, {api.MaxValue/api.One*api.One + r, "8191."},
		} {
			if got, want := FormatFixed(c.x), c.want+digits; got != want {
				t.Errorf("FormatFixed(%d) is %q, want %q", c.x, got, want)
			}
			if got, want := FormatFixed(-c.x), "-"+c.want+digits; got != want && c.x != 0 {
				t.Errorf("FormatFixed(%d) is %q, want %q", -c.x, got, want)
			}
		}
	}
	// All numbers with up to 4 digits are different remainders, so that each has its own.
	if want := [6]int{0, 10, 90, 900, 9000, 55536}; counts != want {
		t.Errorf("the counts of remainders by digits are %v, want %v", counts, want)
	}
}

func TestP6_2ParseFixed(t *testing.T) {
	for _, c := range []struct {
		s    string
		want int
	}{
		{"0.0", 0}, {"0.00", 0}, {"0.000", 0}, {"0.0000", 0}, {"0.00000", 0}, {"1.5", 98304}, {"1.50", 98304}, {"1.500", 98304}, {"1.5000", 98304}, {"1.50000", 98304}, {"-1.5", -98304}, {"-1.50000", -98304},
		{"1.0", 65536}, {"-1.0", -65536}, {"-1.00000", -65536}, {"0.5", 32768}, {"-0.5", -32768}, {"0.1", 6554}, {"0.10", 6554}, {"0.01", 655}, {"0.001", 66}, {"0.0001", 7}, {"0.00001", 1}, {"-0.00001", -1},
		{"0.00002", 1}, {"0.00003", 2}, {"0.9", 58982}, {"0.99", 64881}, {"0.999", 65470}, {"0.9999", 65529}, {"0.99999", 65535}, {"-0.99999", -65535}, {"1.99999", 131071}, {"0.99998", 65535}, {"0.99997", 65534},
		{"10.25", 671744}, {"-100.75", -6602752}, {"0.01562", 1024}, {"0.01563", 1024}, {"9.9", 648806}, {"8191.0", 536805376}, {"8191.99998", 536870911}, {"8191.99999", 536870911}, {"-8191.99999", -536870911},
		{"8191.9999", 536870905}, {"-8191.9999", -536870905}, {"8190.99999", 536805375},
	} {
		checkParseFixed(t, c.s, c.want, api.OK)
	}
}

func TestP6_2ParseFixedSyntax(t *testing.T) {
	many := strings.Repeat("9", 5000)
	for _, s := range []string{
		"", "-", ".", "-.", "0", "1", "-1", "15", "0.", "1.", "-1.", ".0", ".5", "-.5", "1..5", "1.5.", ".1.5", "1.5.5", "1.2.3", "..", "1..", "..1",
		"0.000000", "0.000001", "1.500000", "-1.500000", "0.100000", "0.1234567890", "1.0" + strings.Repeat("0", 5000), "1." + many, "00.5", "01.5", "-01.5", "-00.5", "000.0", "010.0", "00.0",
		"-0.0", "-0.00", "-0.000", "-0.0000", "-0.00000", "-0.000000", "+0.0", "+1.5", "+-1.5", "-+1.5", "--1.5", "1.-5", "1-.5", "1.5-", "1.+5", "-0", "+0",
		" 1.5", "1.5 ", "1 .5", "1. 5", "- 1.5", "1.5\n", "\t1.5", "1.5\x00", "a", "1.a", "a.1", "1.5a", "a1.5", "1.5e1", "1e1.5", "0x1.5", "1_0.5", "1.5_0", "1,5", "1.5f", "inf", "NaN",
		"/.5", ":.5", "1./", "1.:", "1.5/", "1.5:", "\xff.5", "1.\xff", "1\xff.5", "1.5\x80", "\xef\xbc\x91.5", "1.\xd9\xa1", "1\xc2\xb75",
		many, "-" + many, many + ".", "-" + many + ".", many + ".a", many + ".5.5", many + ".5 ", many + ".000000", "0" + many + ".0", "-0" + many + ".0", "+" + many + ".0", many + " .0", "8192.000000", "8192.", "8192", "-8192.0 ",
	} {
		checkParseFixed(t, s, 0, api.ErrSyntax)
	}
}

func TestP6_2ParseFixedRange(t *testing.T) {
	many := strings.Repeat("9", 5000)
	for _, s := range []string{
		"8192.0", "-8192.0", "8192.00000", "8192.00001", "-8192.00001", "8192.5", "8193.0", "-8193.0", "8200.0", "9999.9", "10000.0", "32768.0", "65535.0", "65536.0", "131072.0", "1073741823.0",
		"536870910.0", "536870911.0", "536870912.0", "-536870911.99999", "4294967295.0", "4294967296.0", "-4294967296.0", "140737488355327.0", "140737488355328.0", "281474976710655.5", "281474976710656.0", "281474976710657.0",
		"4611686018427387903.0", "4611686018427387904.0", "4611686018427387905.0", "9223372036854775807.99999", "9223372036854775808.0", "-9223372036854775808.0", "18446744073709551615.0", "18446744073709551616.0", "18446744073709551617.5",
		many + ".0", "-" + many + ".0", many + ".99999", "1" + strings.Repeat("0", 5000) + ".5", "-1" + strings.Repeat("0", 5000) + ".00001",
	} {
		checkParseFixed(t, s, 0, api.ErrRange)
	}
}

// TestP6_2ParseFixedDigits compares the values of all digits behind the point with exact ones, with integer parts from 0 to just above the largest one.
func TestP6_2ParseFixedDigits(t *testing.T) {
	for k := 1; k <= 5; k++ {
		power := int(tenTo(k).Int64())
		for f := range power {
			digits := formOf(power + f)[1:]
			for _, before := range []string{"0.", "-0.", "8191.", "-8191.", "8192."} {
				want, wantCode := expectedFixed(before + digits)
				checkParseFixed(t, before+digits, want, wantCode)
			}
		}
	}
}

// TestP6_2ParseFixedWords compares ParseFixed with the rules over all short strings, and over strings that are almost decimal forms.
func TestP6_2ParseFixedWords(t *testing.T) {
	lists := [][]string{words(allBytes(), 2), words("-01.9 ", 6), words("-+0.5/:a", 5)}
	for _, s := range []string{"0.0", "-0.0", "1.5", "-10.25", "0.00001", "-0.00001", "8191.99999", "-8191.99999", "8192.0", "-8192.0", "99999999999999999999.0"} {
		lists = append(lists, spoiled(s))
	}
	for _, list := range lists {
		for _, s := range list {
			want, wantCode := expectedFixed(s)
			checkParseFixed(t, s, want, wantCode)
		}
	}
}

// TestP6_5FixedNumbers checks that formatted fixed-point numbers are parsed again.
func TestP6_5FixedNumbers(t *testing.T) {
	for _, x := range fixedNumbers() {
		checkParseFixed(t, FormatFixed(x), x, api.OK)
	}
	for r := range api.One {
		for _, x := range []int{r, -r, api.One + r, api.MaxValue - r, r - api.MaxValue} {
			checkParseFixed(t, FormatFixed(x), x, api.OK)
		}
	}
}
