package codec

import (
	"bytes"
	"math"
	"math/big"
	"slices"
	"strings"
	"testing"

	"frustum/api"
)

const (
	largest  = math.MaxInt
	smallest = math.MinInt
)

// encodedInt returns the encoding of an int as the chapter's definitions say, by exact arithmetic.
func encodedInt(n int) []byte {
	u := big.NewInt(int64(n))
	u.Mul(u, big.NewInt(2))
	if n < 0 {
		u.Neg(u)
		u.Sub(u, big.NewInt(1))
	}
	var result []byte
	for {
		group := new(big.Int)
		u.DivMod(u, big.NewInt(128), group)
		if u.Sign() == 0 {
			return append(result, byte(group.Int64()))
		}
		result = append(result, byte(group.Int64())+128)
	}
}

func encodedInts(values []int) []byte {
	result := encodedInt(len(values))
	for _, n := range values {
		result = append(result, encodedInt(n)...)
	}
	return result
}

func encodedString(s string) []byte {
	return append(encodedInt(len(s)), s...)
}

func encodedBool(x bool) []byte {
	if x {
		return []byte{1}
	}
	return []byte{0}
}

// intOf returns the int with the encoding of these groups, and false if a varint must not consist of them.
func intOf(groups []byte) (int, bool) {
	last := groups[len(groups)-1]
	if len(groups) > 10 || len(groups) == 10 && last > 1 || len(groups) > 1 && last == 0 {
		return 0, false
	}
	u := new(big.Int)
	for i := len(groups) - 1; i >= 0; i-- {
		u.Mul(u, big.NewInt(128))
		u.Add(u, big.NewInt(int64(groups[i]%128)))
	}
	half, odd := new(big.Int), new(big.Int)
	half.DivMod(u, big.NewInt(2), odd)
	if odd.Sign() != 0 {
		// u = -2n-1, so that n = -(u+1)/2.
		half.Add(half, big.NewInt(1)).Neg(half)
	}
	return int(half.Int64()), true
}

// expectedInt returns what ReadInt must return, rule by rule of P5.2.
func expectedInt(b []byte, at int) (int, int, api.Errno) {
	if at < 0 || at > len(b) {
		return 0, 0, api.ErrArgument
	}
	for end := at; end < len(b); end++ {
		if end == at+9 && b[end] >= 128 {
			return 0, 0, api.ErrSyntax
		}
		if b[end] < 128 {
			n, ok := intOf(b[at : end+1])
			if !ok {
				return 0, 0, api.ErrSyntax
			}
			return n, end + 1, api.OK
		}
	}
	return 0, 0, api.ErrTruncated
}

// expectedLength returns what the Read functions of lists and strings must find before the elements.
func expectedLength(b []byte, at, limit int) (int, int, api.Errno) {
	if at < 0 || at > len(b) || limit < 0 {
		return 0, 0, api.ErrArgument
	}
	length, after, code := expectedInt(b, at)
	if code == api.OK && length < 0 {
		return 0, 0, api.ErrSyntax
	}
	if code == api.OK && length > limit {
		return 0, 0, api.ErrTooLong
	}
	return length, after, code
}

// expectedInts returns what ReadInts must return.
func expectedInts(b []byte, at, limit int) ([]int, int, api.Errno) {
	length, after, code := expectedLength(b, at, limit)
	var values []int
	for i := 0; i < length && code == api.OK; i++ {
		var n int
		n, after, code = expectedInt(b, after)
		values = append(values, n)
	}
	if code != api.OK {
		return nil, 0, code
	}
	return values, after, api.OK
}

// expectedString returns what ReadString must return.
func expectedString(b []byte, at, limit int) (string, int, api.Errno) {
	length, after, code := expectedLength(b, at, limit)
	if code != api.OK {
		return "", 0, code
	}
	var characters []byte
	for range length {
		if after == len(b) {
			return "", 0, api.ErrTruncated
		}
		characters = append(characters, b[after])
		after++
	}
	return string(characters), after, api.OK
}

// boundaries returns the ints next to those at which the number of bytes of the encoding changes, and next to 0 and to powers of two.
func boundaries() []int {
	values := []int{smallest, smallest + 1, smallest + 2, largest, largest - 1, largest - 2}
	for shift := range 63 {
		for near := 1<<shift - 2; near <= 1<<shift+2; near++ {
			values = append(values, near, -near)
		}
	}
	slices.Sort(values)
	return slices.Compact(values)
}

// arbitrary returns a function that returns arbitrary ints of all magnitudes, the same in each run.
func arbitrary() func() int {
	state := uint64(1)
	return func() int {
		state = state*6364136223846793005 + 1442695040888963407
		return int(state) >> (state >> 32 % 64)
	}
}

// strange returns strings, some of which are not valid UTF-8 or have lengths at which the encoding of the length grows.
func strange() []string {
	return []string{
		"", "a", "\x00", "\x01", "\x7f", "\x80", "\xff", "\xc3", "\xc3\xa9", "\xa9\xc3", "\xed\xa0\x80", "\xf4\x90\x80\x80", "a\xffb\xfe\x00c",
		"words and\nlines", strings.Repeat("x", 63), strings.Repeat("\x80", 64), strings.Repeat("\xe2\x82", 50), strings.Repeat("yz", 5000),
	}
}

// lists returns lists of different lengths, up to one at which the encoding of the length grows.
func lists() [][]int {
	next := arbitrary()
	long := make([]int, 0, 300)
	for range cap(long) {
		long = append(long, next())
	}
	return [][]int{
		nil, {}, {0}, {-1}, {1}, {largest}, {smallest}, {0, 0}, {1, -1, 63, 64, -64, -65}, {largest, smallest, largest},
		long[:62], long[:63], long[:64], long[:65], long, boundaries(),
	}
}

// prefixes returns bytes behind which a value is appended.
func prefixes() [][]byte {
	return [][]byte{nil, {}, {0}, {0xff}, {0x80}, {1, 2, 3}, bytes.Repeat([]byte{0x80}, 12), bytes.Repeat([]byte{0xa5}, 1000)}
}

// followers returns bytes that follow a value, and some that would change it if they were read.
func followers() [][]byte {
	return [][]byte{nil, {0}, {1}, {0x7f}, {0x80}, {0xff, 0xff}, {2, 4, 6}, bytes.Repeat([]byte{0x80}, 12)}
}

// joined returns a new list of all bytes.
func joined(parts ...[]byte) []byte {
	return slices.Concat(parts...)
}

// outside returns numbers that are no index of bytes of this length, and not its end.
func outside(length int) []int {
	return []int{smallest, smallest + 1, -1 << 32, -length - 1, -2, -1, length + 1, length + 2, length + 1<<32, 1 << 62, largest - 1, largest}
}

func checkInt(t *testing.T, b []byte, at, wantValue, wantAfter int, wantCode api.Errno) {
	t.Helper()
	if n, after, code := ReadInt(b, at); n != wantValue || after != wantAfter || code != wantCode {
		t.Errorf("ReadInt(% x, %d) is %d, %d, %d, want %d, %d, %d", b, at, n, after, code, wantValue, wantAfter, wantCode)
	}
}

func checkInts(t *testing.T, b []byte, at, limit int, wantValues []int, wantAfter int, wantCode api.Errno) {
	t.Helper()
	values, after, code := ReadInts(b, at, limit)
	if !slices.Equal(values, wantValues) || after != wantAfter || code != wantCode {
		t.Errorf("ReadInts(% x, %d, %d) is %v, %d, %d, want %v, %d, %d", b, at, limit, values, after, code, wantValues, wantAfter, wantCode)
	}
}

func checkString(t *testing.T, b []byte, at, limit int, want string, wantAfter int, wantCode api.Errno) {
	t.Helper()
	if s, after, code := ReadString(b, at, limit); s != want || after != wantAfter || code != wantCode {
		t.Errorf("ReadString(% x, %d, %d) is %q, %d, %d, want %q, %d, %d", b, at, limit, s, after, code, want, wantAfter, wantCode)
	}
}

func checkBool(t *testing.T, b []byte, at int, want bool, wantAfter int, wantCode api.Errno) {
	t.Helper()
	if x, after, code := ReadBool(b, at); x != want || after != wantAfter || code != wantCode {
		t.Errorf("ReadBool(% x, %d) is %t, %d, %d, want %t, %d, %d", b, at, x, after, code, want, wantAfter, wantCode)
	}
}

// checkLimited checks that ReadInts and ReadString fail alike.
func checkLimited(t *testing.T, b []byte, at, limit int, want api.Errno) {
	t.Helper()
	checkInts(t, b, at, limit, nil, 0, want)
	checkString(t, b, at, limit, "", 0, want)
}

// checkAppend checks a function that appends one value, behind each prefix and with and without capacity behind its length.
func checkAppend(t *testing.T, name string, function func(b []byte) []byte, encoding []byte) {
	t.Helper()
	for _, prefix := range prefixes() {
		want := joined(prefix, encoding)
		if got := function(bytes.Clone(prefix)); !bytes.Equal(got, want) {
			t.Errorf("%s behind % x is % x, want % x", name, prefix, got, want)
		}
		// The capacity has room for the value, so that appending in place would write there.
		room := joined(prefix, bytes.Repeat([]byte{0x55}, len(encoding)+16))
		before := bytes.Clone(room)
		got := function(room[:len(prefix)])
		if !bytes.Equal(got, want) {
			t.Errorf("%s behind % x with capacity is % x, want % x", name, prefix, got, want)
		}
		if !bytes.Equal(room, before) {
			t.Errorf("%s changed the bytes % x to % x", name, before, room)
		}
		clear(got)
		if !bytes.Equal(room, before) {
			t.Errorf("the result of %s shares memory with its argument", name)
		}
	}
}

func TestP5_1AppendIntBytes(t *testing.T) {
	for _, c := range []struct {
		n    int
		want string
	}{
		{0, "\x00"}, {-1, "\x01"}, {1, "\x02"}, {-2, "\x03"}, {2, "\x04"},
		{62, "\x7c"}, {63, "\x7e"}, {-63, "\x7d"}, {-64, "\x7f"}, {64, "\x80\x01"}, {-65, "\x81\x01"}, {65, "\x82\x01"},
		{8191, "\xfe\x7f"}, {-8192, "\xff\x7f"}, {8192, "\x80\x80\x01"}, {-8193, "\x81\x80\x01"},
		{1<<20 - 1, "\xfe\xff\x7f"}, {-1 << 20, "\xff\xff\x7f"}, {1 << 20, "\x80\x80\x80\x01"}, {-1<<20 - 1, "\x81\x80\x80\x01"},
		{1<<27 - 1, "\xfe\xff\xff\x7f"}, {-1 << 27, "\xff\xff\xff\x7f"}, {1 << 27, "\x80\x80\x80\x80\x01"},
		{1<<34 - 1, "\xfe\xff\xff\xff\x7f"}, {-1 << 34, "\xff\xff\xff\xff\x7f"}, {1 << 34, "\x80\x80\x80\x80\x80\x01"},
		{1<<41 - 1, "\xfe\xff\xff\xff\xff\x7f"}, {-1 << 41, "\xff\xff\xff\xff\xff\x7f"}, {1 << 41, "\x80\x80\x80\x80\x80\x80\x01"},
		{1<<48 - 1, "\xfe\xff\xff\xff\xff\xff\x7f"}, {-1 << 48, "\xff\xff\xff\xff\xff\xff\x7f"}, {1 << 48, "\x80\x80\x80\x80\x80\x80\x80\x01"},
		{1<<55 - 1, "\xfe\xff\xff\xff\xff\xff\xff\x7f"}, {-1 << 55, "\xff\xff\xff\xff\xff\xff\xff\x7f"},
		{1 << 55, "\x80\x80\x80\x80\x80\x80\x80\x80\x01"}, {-1<<55 - 1, "\x81\x80\x80\x80\x80\x80\x80\x80\x01"},
		{1<<62 - 1, "\xfe\xff\xff\xff\xff\xff\xff\xff\x7f"}, {-1 << 62, "\xff\xff\xff\xff\xff\xff\xff\xff\x7f"},
		{1 << 62, "\x80\x80\x80\x80\x80\x80\x80\x80\x80\x01"}, {-1<<62 - 1, "\x81\x80\x80\x80\x80\x80\x80\x80\x80\x01"},
		{largest - 1, "\xfc\xff\xff\xff\xff\xff\xff\xff\xff\x01"}, {smallest + 1, "\xfd\xff\xff\xff\xff\xff\xff\xff\xff\x01"},
		{largest, "\xfe\xff\xff\xff\xff\xff\xff\xff\xff\x01"}, {smallest, "\xff\xff\xff\xff\xff\xff\xff\xff\xff\x01"},
	} {
		if got := AppendInt(nil, c.n); string(got) != c.want {
			t.Errorf("AppendInt(nil, %d) is % x, want % x", c.n, got, c.want)
		}
	}
}

func TestP5_1AppendInt(t *testing.T) {
	next := arbitrary()
	values := boundaries()
	for range 1000 {
		values = append(values, next())
	}
	for _, n := range values {
		checkAppend(t, "AppendInt", func(b []byte) []byte { return AppendInt(b, n) }, encodedInt(n))
	}
}

func TestP5_1AppendInts(t *testing.T) {
	if got := AppendInts([]byte{9}, []int{1, -1, 64}); string(got) != "\x09\x06\x02\x01\x80\x01" {
		t.Errorf("AppendInts([9], [1 -1 64]) is % x", got)
	}
	for _, values := range lists() {
		before := slices.Clone(values)
		checkAppend(t, "AppendInts", func(b []byte) []byte { return AppendInts(b, values) }, encodedInts(values))
		if !slices.Equal(values, before) {
			t.Errorf("AppendInts changed the list %v to %v", before, values)
		}
	}
}

func TestP5_1AppendString(t *testing.T) {
	if got := AppendString([]byte{9}, "a\xff"); string(got) != "\x09\x04a\xff" {
		t.Errorf("AppendString([9], a ff) is % x", got)
	}
	for _, s := range strange() {
		checkAppend(t, "AppendString", func(b []byte) []byte { return AppendString(b, s) }, encodedString(s))
	}
}

func TestP5_1AppendBool(t *testing.T) {
	checkAppend(t, "AppendBool of true", func(b []byte) []byte { return AppendBool(b, true) }, []byte{1})
	checkAppend(t, "AppendBool of false", func(b []byte) []byte { return AppendBool(b, false) }, []byte{0})
}

// TestP5_1Chains checks that results from the same bytes, which may have capacity left, do not change each other.
func TestP5_1Chains(t *testing.T) {
	b := AppendString(AppendInt(AppendBool(nil, true), 64), "xy")
	for _, extend := range []func(b []byte, x int) []byte{
		AppendInt,
		func(b []byte, x int) []byte { return AppendInts(b, []int{x}) },
		func(b []byte, x int) []byte { return AppendString(b, string(rune('a'+x))) },
		func(b []byte, x int) []byte { return AppendBool(b, x == 1) },
	} {
		first := extend(b, 1)
		before := bytes.Clone(first)
		second := extend(b, 2)
		if !bytes.Equal(first, before) || bytes.Equal(first, second) {
			t.Errorf("a second append changed % x to % x", before, first)
		}
	}
	if string(b) != "\x01\x80\x01\x04xy" {
		t.Errorf("the chain is % x", b)
	}
}

func TestP5_2Positions(t *testing.T) {
	for _, b := range [][]byte{nil, {}, {0}, {1, 1}, {0x80}, {2, 2, 2, 2}, bytes.Repeat([]byte{0x80}, 20)} {
		for _, at := range outside(len(b)) {
			checkInt(t, b, at, 0, 0, api.ErrArgument)
			checkBool(t, b, at, false, 0, api.ErrArgument)
			for _, limit := range []int{smallest, -1, 0, 1, 100, largest} {
				checkLimited(t, b, at, limit, api.ErrArgument)
			}
		}
		checkInt(t, b, len(b), 0, 0, api.ErrTruncated)
		checkBool(t, b, len(b), false, 0, api.ErrTruncated)
		for _, limit := range []int{0, 1, 100, largest} {
			checkLimited(t, b, len(b), limit, api.ErrTruncated)
		}
	}
}

// TestP5_2Capacity checks that the bytes end at their length: what lies behind it is not read.
func TestP5_2Capacity(t *testing.T) {
	room := []byte{0x80, 1, 2, 3, 4, 5}
	checkInt(t, room[:0], 0, 0, 0, api.ErrTruncated)
	checkInt(t, room[:1], 0, 0, 0, api.ErrTruncated)
	checkInt(t, room[:1], 2, 0, 0, api.ErrArgument)
	checkBool(t, room[:1], 1, false, 0, api.ErrTruncated)
	checkLimited(t, room[2:3], 0, 9, api.ErrTruncated)
}

func TestP5_2ReadInt(t *testing.T) {
	for _, c := range []struct {
		bytes     string
		at, value int
		after     int
	}{
		{"\x00", 0, 0, 1}, {"\x01", 0, -1, 1}, {"\x02", 0, 1, 1}, {"\x7f", 0, -64, 1}, {"\x80\x01", 0, 64, 2}, {"\x80\x01", 1, -1, 2},
		{"\x80\x80\x01\x09", 0, 8192, 3}, {"\x80\x80\x01\x09", 1, 64, 3}, {"\x80\x80\x01\x09", 2, -1, 3}, {"\x80\x80\x01\x09", 3, -5, 4},
		{"\x80\x80\x80\x80\x80\x80\x80\x80\x01", 0, 1 << 55, 9}, {"\xff\xff\xff\xff\xff\xff\xff\xff\x7f", 0, -1 << 62, 9},
		{"\x80\x80\x80\x80\x80\x80\x80\x80\x80\x01", 0, 1 << 62, 10}, {"\xfe\xff\xff\xff\xff\xff\xff\xff\xff\x01", 0, largest, 10},
		{"\xff\xff\xff\xff\xff\xff\xff\xff\xff\x01", 0, smallest, 10}, {"\xff\xff\xff\xff\xff\xff\xff\xff\xff\x01\xff", 0, smallest, 10},
	} {
		checkInt(t, []byte(c.bytes), c.at, c.value, c.after, api.OK)
	}
}

// TestP5_2Ends lets the bytes of each int end at every place.
func TestP5_2Ends(t *testing.T) {
	for _, n := range boundaries() {
		encoding := encodedInt(n)
		for end := range encoding {
			for _, prefix := range prefixes() {
				checkInt(t, joined(prefix, encoding[:end]), len(prefix), 0, 0, api.ErrTruncated)
			}
			checkLimited(t, encoding[:end], 0, largest, api.ErrTruncated)
		}
	}
}

// TestP5_2Unnecessary adds a byte to each varint: the last byte gets the highest bit and is followed by 0.
func TestP5_2Unnecessary(t *testing.T) {
	for _, n := range boundaries() {
		longer := append(encodedInt(n), 0)
		longer[len(longer)-2] += 128
		for _, after := range followers() {
			b := joined(longer, after)
			checkInt(t, b, 0, 0, 0, api.ErrSyntax)
			checkLimited(t, b, 0, largest, api.ErrSyntax)
			checkInts(t, joined([]byte{2}, b), 0, 1, nil, 0, api.ErrSyntax)
		}
	}
	checkInt(t, []byte{0x80, 0x80, 0}, 0, 0, 0, api.ErrSyntax)
	checkInt(t, []byte{0x80, 0x80}, 0, 0, 0, api.ErrTruncated)
}

// TestP5_2LongVarints checks varints of nine to twelve bytes, and those that end at each place there.
func TestP5_2LongVarints(t *testing.T) {
	for _, c := range []struct {
		tenth byte
		want  api.Errno
	}{{0, api.ErrSyntax}, {1, api.OK}, {2, api.ErrSyntax}, {3, api.ErrSyntax}, {127, api.ErrSyntax}, {128, api.ErrSyntax}, {129, api.ErrSyntax}, {255, api.ErrSyntax}} {
		for _, group := range []byte{0x80, 0x81, 0xff} {
			nine := bytes.Repeat([]byte{group}, 9)
			checkInt(t, nine, 0, 0, 0, api.ErrTruncated)
			for _, after := range [][]byte{nil, {0}, {1}, {2}, {0x80}, {0xff}, {0x80, 0}, {0x80, 1}, {0x80, 0x80}} {
				b := joined(nine, []byte{c.tenth}, after)
				value, end, code := expectedInt(b, 0)
				if code != c.want {
					t.Fatalf("the tests expect %d and %d for % x", code, c.want, b)
				}
				checkInt(t, b, 0, value, end, c.want)
			}
		}
	}
}

// TestP5_2AllShort compares ReadInt with the rules for all bytes of which there are at most three, with the last of three from a few.
func TestP5_2AllShort(t *testing.T) {
	check := func(b ...byte) {
		for at := range len(b) + 1 {
			value, after, code := expectedInt(b, at)
			checkInt(t, b, at, value, after, code)
		}
	}
	for x := range 256 {
		check(byte(x))
		for y := range 256 {
			check(byte(x), byte(y))
			if x%17 == 0 || x > 250 {
				for _, z := range []byte{0, 1, 2, 127, 128, 129, 255} {
					check(byte(x), byte(y), z)
				}
			}
		}
	}
}

func TestP5_2ReadBool(t *testing.T) {
	for x := range 256 {
		for _, prefix := range prefixes() {
			for _, after := range followers() {
				b := joined(prefix, []byte{byte(x)}, after)
				switch x {
				case 0:
					checkBool(t, b, len(prefix), false, len(prefix)+1, api.OK)
				case 1:
					checkBool(t, b, len(prefix), true, len(prefix)+1, api.OK)
				default:
					checkBool(t, b, len(prefix), false, 0, api.ErrSyntax)
				}
			}
		}
	}
}

func TestP5_2ReadInts(t *testing.T) {
	b := []byte("\x09\x06\x02\x01\x80\x01\x55")
	checkInts(t, b, 1, 3, []int{1, -1, 64}, 6, api.OK)
	checkInts(t, b, 2, 1, []int{-1}, 4, api.OK)
	checkInts(t, b, 1, 2, nil, 0, api.ErrTooLong)
	checkInts(t, b, 3, 9, nil, 0, api.ErrSyntax)
	checkInts(t, []byte{0}, 0, 0, nil, 1, api.OK)
	checkInts(t, []byte{0, 5}, 0, largest, nil, 1, api.OK)
}

func TestP5_2ReadString(t *testing.T) {
	b := []byte("\x09\x06a\xff\x00b")
	checkString(t, b, 1, 3, "a\xff\x00", 5, api.OK)
	checkString(t, b, 1, 2, "", 0, api.ErrTooLong)
	checkString(t, b, 0, 9, "", 0, api.ErrSyntax)
	checkString(t, b, 4, 0, "", 5, api.OK)
	checkString(t, []byte{0}, 0, 0, "", 1, api.OK)
	checkString(t, []byte{0, 5}, 0, largest, "", 1, api.OK)
}

// TestP5_2Limits reads lists and strings with limits around their lengths.
func TestP5_2Limits(t *testing.T) {
	for _, values := range lists() {
		checkLimits(t, encodedInts(values), len(values))
	}
	for _, s := range strange() {
		checkLimits(t, encodedString(s), len(s))
	}
}

// checkLimits reads the encoding of a list or a string of this length, as either of them.
func checkLimits(t *testing.T, encoding []byte, length int) {
	t.Helper()
	for _, limit := range []int{smallest, -length, -length - 1, -1} {
		if limit < 0 {
			checkLimited(t, encoding, 0, limit, api.ErrArgument)
		}
	}
	for _, limit := range []int{0, 1, length / 2, length - 2, length - 1} {
		if 0 <= limit && limit < length {
			checkLimited(t, encoding, 0, limit, api.ErrTooLong)
		}
	}
	for _, limit := range []int{length, length + 1, 2*length + 1, 1 << 32, largest} {
		values, after, code := expectedInts(encoding, 0, limit)
		checkInts(t, encoding, 0, limit, values, after, code)
		s, after, code := expectedString(encoding, 0, limit)
		checkString(t, encoding, 0, limit, s, after, code)
	}
}

// TestP5_2ListEnds lets the bytes of lists and strings end at every place.
func TestP5_2ListEnds(t *testing.T) {
	for _, prefix := range [][]byte{nil, {2, 2}} {
		for _, values := range lists() {
			encoding := encodedInts(values)
			for end := range encoding {
				checkInts(t, joined(prefix, encoding[:end]), len(prefix), len(values), nil, 0, api.ErrTruncated)
			}
			checkInts(t, joined(prefix, encoding), len(prefix), len(values), values, len(prefix)+len(encoding), api.OK)
		}
		for _, s := range strange() {
			encoding := encodedString(s)
			for end := range min(len(encoding), 300) {
				checkString(t, joined(prefix, encoding[:end]), len(prefix), len(s), "", 0, api.ErrTruncated)
			}
			checkString(t, joined(prefix, encoding[:len(encoding)-1]), len(prefix), len(s)+1, "", 0, api.ErrTruncated)
			checkString(t, joined(prefix, encoding), len(prefix), len(s), s, len(prefix)+len(encoding), api.OK)
		}
	}
}

// TestP5_2Lengths checks lengths without elements: negative ones, and ones beyond the limit and beyond the bytes that are left.
func TestP5_2Lengths(t *testing.T) {
	for _, n := range boundaries() {
		for _, after := range [][]byte{nil, {2}, {2, 2, 2}} {
			b := joined(encodedInt(n), after)
			switch {
			case n < 0:
				checkLimited(t, b, 0, 0, api.ErrSyntax)
				checkLimited(t, b, 0, largest, api.ErrSyntax)
			case n > len(after):
				checkLimited(t, b, 0, 0, api.ErrTooLong)
				checkLimited(t, b, 0, n-1, api.ErrTooLong)
				checkLimited(t, b, 0, n, api.ErrTruncated)
				checkLimited(t, b, 0, largest, api.ErrTruncated)
			}
			checkLimited(t, b, 0, -1, api.ErrArgument)
			checkLimited(t, b, 0, smallest, api.ErrArgument)
		}
	}
}

// TestP5_2Order checks bytes to which several errors apply.
func TestP5_2Order(t *testing.T) {
	ten := bytes.Repeat([]byte{0x80}, 10)
	for _, c := range []struct {
		name      string
		b         []byte
		at, limit int
		want      api.Errno
	}{
		{"an index and a limit that are negative, without bytes", nil, -1, -1, api.ErrArgument},
		{"a negative limit and no length", nil, 0, -1, api.ErrArgument},
		{"a negative limit and a length that is cut off", []byte{0x80}, 0, -1, api.ErrArgument},
		{"a negative limit and a length that is too long a varint", []byte{0x80, 0}, 0, -1, api.ErrArgument},
		{"a negative limit and a negative length", []byte{1}, 0, -1, api.ErrArgument},
		{"a length that is cut off after more than the limit", []byte{0xfe, 0xff}, 0, 1, api.ErrTruncated},
		{"a length beyond the limit with an unnecessary byte", []byte{0xfe, 0x80, 0}, 0, 1, api.ErrSyntax},
		{"a length with an unnecessary byte that would be negative", []byte{0x81, 0}, 0, 1, api.ErrSyntax},
		{"a length of ten bytes that end there", ten, 0, 1, api.ErrSyntax},
		{"a length of nine bytes that end there", ten, 1, 1, api.ErrTruncated},
		{"a negative length whose magnitude is beyond the limit", encodedInt(smallest), 0, 1, api.ErrSyntax},
		{"a length beyond the limit and beyond the bytes", []byte{6, 2}, 0, 2, api.ErrTooLong},
		{"a length beyond the limit and an element that is not valid", []byte{6, 0x80, 0}, 0, 2, api.ErrTooLong},
	} {
		t.Run(c.name, func(t *testing.T) { checkLimited(t, c.b, c.at, c.limit, c.want) })
	}
}

// TestP5_2Elements checks lists with elements that are not valid: the first one determines the error.
func TestP5_2Elements(t *testing.T) {
	ten := bytes.Repeat([]byte{0x80}, 10)
	for _, c := range []struct {
		name  string
		bytes []byte
		want  api.Errno
	}{
		{"unnecessary byte in the first", []byte{6, 0x80, 0, 2, 2}, api.ErrSyntax},
		{"unnecessary byte in the second", []byte{6, 2, 0x80, 0, 2}, api.ErrSyntax},
		{"unnecessary byte in the last", []byte{6, 2, 2, 0x80, 0}, api.ErrSyntax},
		{"unnecessary byte behind the list", []byte{4, 2, 4, 0x80, 0}, api.OK},
		{"bytes end behind an element that is not valid", []byte{6, 0x80, 0}, api.ErrSyntax},
		{"length beyond the bytes, and an element that is not valid", []byte{100, 2, 0x80, 0}, api.ErrSyntax},
		{"length beyond the bytes, and elements that are valid", []byte{100, 2, 4, 6}, api.ErrTruncated},
		{"second cut off, although as many bytes are left as elements", []byte{4, 2, 0x80}, api.ErrTruncated},
		{"second of ten bytes that end there", joined([]byte{4, 2}, ten), api.ErrSyntax},
		{"second of nine bytes that end there", joined([]byte{4, 2}, ten[1:]), api.ErrTruncated},
		{"second with a tenth byte of 2", joined([]byte{4, 2}, ten[1:], []byte{2}), api.ErrSyntax},
		{"last cut off", []byte{6, 2, 2, 0xff, 0xff}, api.ErrTruncated},
	} {
		t.Run(c.name, func(t *testing.T) {
			values, after, code := expectedInts(c.bytes, 0, 50)
			if code != c.want {
				t.Fatalf("the tests expect %d and %d for % x", code, c.want, c.bytes)
			}
			checkInts(t, c.bytes, 0, 50, values, after, c.want)
		})
	}
}

// TestP5_2Arbitrary compares the Read functions with the rules for bytes that often are almost valid.
func TestP5_2Arbitrary(t *testing.T) {
	next := arbitrary()
	choices := []byte{0, 1, 2, 3, 4, 6, 8, 126, 127, 128, 129, 130, 254, 255}
	for range 20000 {
		b := make([]byte, uint(next())%24)
		for i := range b {
			b[i] = choices[uint(next())%uint(len(choices))]
		}
		limit := next() % 9
		for at := -1; at <= len(b)+1; at++ {
			value, after, code := expectedInt(b, at)
			checkInt(t, b, at, value, after, code)
			values, after, code := expectedInts(b, at, limit)
			checkInts(t, b, at, limit, values, after, code)
			s, after, code := expectedString(b, at, limit)
			checkString(t, b, at, limit, s, after, code)
		}
	}
}

// TestP5_2Memory checks that what was read does not change with the bytes it was read from, and that reading changes none of them.
func TestP5_2Memory(t *testing.T) {
	b := joined(encodedInts([]int{1, -1, 64}), encodedString("text"), []byte{1})
	before := bytes.Clone(b)
	values, after, _ := ReadInts(b, 0, 3)
	s, after, _ := ReadString(b, after, 4)
	x, after, _ := ReadBool(b, after)
	if after != len(b) || !bytes.Equal(b, before) {
		t.Errorf("% x was read up to %d and is % x then", before, after, b)
	}
	clear(b)
	if !slices.Equal(values, []int{1, -1, 64}) || s != "text" || !x {
		t.Errorf("the values %v, %q and %t changed with the bytes", values, s, x)
	}
}

// TestP5_5ReadAgain reads appended values, whatever lies before and behind them.
func TestP5_5ReadAgain(t *testing.T) {
	for _, prefix := range prefixes() {
		at := len(prefix)
		for _, after := range followers() {
			for _, n := range boundaries() {
				b := AppendInt(prefix, n)
				checkInt(t, joined(b, after), at, n, len(b), api.OK)
			}
			for _, values := range lists() {
				b := AppendInts(prefix, values)
				checkInts(t, joined(b, after), at, len(values), values, len(b), api.OK)
			}
			for _, s := range strange() {
				b := AppendString(prefix, s)
				checkString(t, joined(b, after), at, len(s), s, len(b), api.OK)
			}
			for _, x := range []bool{false, true} {
				b := AppendBool(prefix, x)
				checkBool(t, joined(b, after), at, x, len(b), api.OK)
			}
		}
	}
}

// TestP5_5Sequence reads a sequence of all kinds of values, each at the index after the one before it.
func TestP5_5Sequence(t *testing.T) {
	next := arbitrary()
	var numbers []int
	var b []byte
	for range 300 {
		n := next()
		numbers = append(numbers, n)
		b = AppendBool(AppendString(AppendInts(AppendInt(b, n), []int{n, -n}), string(encodedInt(n))), n%2 == 0)
	}
	at := 0
	for _, n := range numbers {
		value, afterInt, first := ReadInt(b, at)
		values, afterInts, second := ReadInts(b, afterInt, 2)
		s, afterString, third := ReadString(b, afterInts, 10)
		x, after, fourth := ReadBool(b, afterString)
		if first != api.OK || second != api.OK || third != api.OK || fourth != api.OK {
			t.Fatalf("reading at %d gives %d, %d, %d, %d", at, first, second, third, fourth)
		}
		if value != n || !slices.Equal(values, []int{n, -n}) || s != string(encodedInt(n)) || x != (n%2 == 0) {
			t.Fatalf("%d is read again as %d, %v, %q, %t", n, value, values, s, x)
		}
		at = after
	}
	if at != len(b) {
		t.Errorf("%d of %d bytes were read", at, len(b))
	}
}

// TestP5_5OneEncoding appends what was read from arbitrary bytes: a value that is read has no encoding but the appended one.
func TestP5_5OneEncoding(t *testing.T) {
	check := func(b ...byte) {
		t.Helper()
		if n, after, code := ReadInt(b, 0); code == api.OK && !bytes.Equal(AppendInt(nil, n), b[:after]) {
			t.Errorf("% x is read as %d, which has another encoding", b[:after], n)
		}
		if values, after, code := ReadInts(b, 0, len(b)); code == api.OK && !bytes.Equal(AppendInts(nil, values), b[:after]) {
			t.Errorf("% x is read as %v, which has another encoding", b[:after], values)
		}
		if s, after, code := ReadString(b, 0, len(b)); code == api.OK && !bytes.Equal(AppendString(nil, s), b[:after]) {
			t.Errorf("% x is read as %q, which has another encoding", b[:after], s)
		}
		if x, after, code := ReadBool(b, 0); code == api.OK && !bytes.Equal(AppendBool(nil, x), b[:after]) {
			t.Errorf("% x is read as %t, which has another encoding", b[:after], x)
		}
	}
	for x := range 256 {
		for y := range 256 {
			check(byte(x), byte(y))
			check(4, byte(x), byte(y))
			for _, length := range []int{3, 8, 9, 10} {
				b := bytes.Repeat([]byte{0x80}, length)
				b[0], b[length-1] = byte(x), byte(y)
				check(b...)
			}
		}
	}
}
