package codec

import (
	"bytes"
	"math/big"
	"slices"
	"strings"
	"testing"
)

// hashed returns the hash of bytes by exact arithmetic.
func hashed(b []byte) uint64 {
	modulus := new(big.Int).Lsh(big.NewInt(1), 64)
	value, _ := new(big.Int).SetString("cbf29ce484222325", 16)
	for _, x := range b {
		value.Xor(value, big.NewInt(int64(x)))
		value.Mul(value, big.NewInt(0x100000001b3))
		value.Mod(value, modulus)
	}
	return value.Uint64()
}

func TestP5_3Hash(t *testing.T) {
	for _, c := range []struct {
		bytes string
		want  uint64
	}{
		{"", 0xcbf29ce484222325}, {"\x00", 0xaf63bd4c8601b7df}, {"a", 0xaf63dc4c8601ec8c}, {"b", 0xaf63df4c8601f1a5},
		{"foo", 0xdcb27518fed9d577}, {"foobar", 0x85944171f73967e8},
	} {
		if got := Hash([]byte(c.bytes)); got != c.want {
			t.Errorf("Hash(%q) is %#x, want %#x", c.bytes, got, c.want)
		}
	}
	if got := Hash(nil); got != 0xcbf29ce484222325 {
		t.Errorf("Hash(nil) is %#x", got)
	}
	many := []byte(strings.Repeat("\x00\xff\x80\x7fx", 2000))
	for length := range len(many) {
		if length < 300 || length%1000 == 999 {
			b := many[:length]
			if got, want := Hash(b), hashed(b); got != want {
				t.Errorf("the hash of %d bytes is %#x, want %#x", length, got, want)
			}
		}
	}
	for x := range 256 {
		b := []byte{byte(x)}
		if got, want := Hash(b), hashed(b); got != want || b[0] != byte(x) {
			t.Errorf("Hash([%d]) is %#x, want %#x", x, got, want)
		}
	}
}

// noSizes returns numbers of which none is the size of a number, although some look like one if bits are dropped.
func noSizes() []int {
	return []int{0, -1, -2, -3, -4, 5, 6, 7, 8, 9, 16, 64, 255, 256, 257, 260, 1 << 16, 1<<32 + 1, 1<<32 + 4, 1 << 62, 1<<62 + 2, largest - 1, largest,
		smallest, smallest + 1, smallest + 2, smallest + 4, -1 << 32, 2 - 1<<32}
}

// samples returns bytes of different lengths, so that a number of each size is there, is missing, or ends just beyond the end.
func samples() [][]byte {
	return [][]byte{nil, {}, {1}, {0xff}, {1, 2}, {1, 2, 3}, {0xff, 0xfe, 0xfd, 0xfc}, {0x80, 0, 0, 0x80, 1}, {9, 8, 7, 6, 5, 4, 3, 2, 1}}
}

// places returns all indices of bytes, those next to them, and some far beyond.
func places(length int) []int {
	result := outside(length)
	for at := -5; at <= length+5; at++ {
		result = append(result, at)
	}
	return append(result, largest-2, largest-3, largest-4, smallest+3, smallest+4)
}

// fits reports whether the bytes of a number exist, one after the other.
func fits(length, at, size int) bool {
	if size < 1 || size > 4 {
		return false
	}
	for i := range size {
		index := new(big.Int).Add(big.NewInt(int64(at)), big.NewInt(int64(i)))
		if index.Sign() < 0 || index.Cmp(big.NewInt(int64(length))) >= 0 {
			return false
		}
	}
	return true
}

// number returns the number of size bytes from index at on, byte by byte.
func number(b []byte, at, size int) int {
	result, unit := 0, 1
	for _, x := range b[at : at+size] {
		result += int(x) * unit
		unit *= 256
	}
	return result
}

// replaced returns a copy of b with the lowest bits of value in size bytes from index at on, by floored division.
func replaced(b []byte, at, size, value int) []byte {
	result := slices.Clone(b)
	rest := big.NewInt(int64(value))
	for i := range size {
		digit := new(big.Int)
		// DivMod leaves remainders that are not negative, so that the bits of a negative value are those of its two's complement.
		rest.DivMod(rest, big.NewInt(256), digit)
		result[at+i] = byte(digit.Int64())
	}
	return result
}

func TestP5_4Little(t *testing.T) {
	for _, c := range []struct {
		bytes          string
		at, size, want int
	}{
		{"\x01\x02", 0, 2, 513}, {"\x01\x02", 0, 1, 1}, {"\x01\x02", 1, 1, 2}, {"\x01\x02", 1, 2, 0}, {"\x01\x02", 2, 1, 0}, {"\x01\x02", 0, 3, 0},
		{"\xff\xff\xff\xff", 0, 4, 1<<32 - 1}, {"\xff\xff\xff\xff", 1, 3, 1<<24 - 1}, {"\xff\xff\xff\xff", 2, 2, 65535}, {"\xff\xff\xff\xff", 3, 1, 255},
		{"\x00\x00\x00\x80", 0, 4, 1 << 31}, {"\x04\x03\x02\x01", 0, 4, 0x01020304}, {"\x04\x03\x02\x01", 0, 3, 0x020304}, {"", 0, 1, 0},
	} {
		if got := Little([]byte(c.bytes), c.at, c.size); got != c.want {
			t.Errorf("Little(% x, %d, %d) is %d, want %d", c.bytes, c.at, c.size, got, c.want)
		}
	}
}

func TestP5_4LittlePlaces(t *testing.T) {
	for _, b := range samples() {
		before := bytes.Clone(b)
		for _, at := range places(len(b)) {
			for _, size := range append([]int{1, 2, 3, 4}, noSizes()...) {
				want := 0
				if fits(len(b), at, size) {
					want = number(b, at, size)
				}
				if got := Little(b, at, size); got != want {
					t.Errorf("Little(% x, %d, %d) is %d, want %d", b, at, size, got, want)
				}
			}
		}
		if !bytes.Equal(b, before) {
			t.Errorf("Little changed the bytes % x to % x", before, b)
		}
	}
}

func TestP5_4PutLittle(t *testing.T) {
	for _, c := range []struct {
		bytes           string
		at, size, value int
		want            string
	}{
		{"\x01\x02", 0, 2, 513, "\x01\x02"}, {"\x09\x09\x09", 1, 1, 5, "\x09\x05\x09"}, {"\x09\x09\x09", 1, 2, 5, "\x09\x05\x00"},
		{"\x09\x09\x09", 2, 1, 5, "\x09\x09\x05"}, {"\x09\x09\x09", 2, 2, 5, "\x09\x09\x09"}, {"\x09\x09\x09", 3, 1, 5, "\x09\x09\x09"},
		{"\x09\x09\x09\x09\x09", 0, 4, 0x01020304, "\x04\x03\x02\x01\x09"}, {"\x09\x09\x09\x09\x09", 1, 3, 0x01020304, "\x09\x04\x03\x02\x09"},
		{"\x09\x09\x09\x09\x09", 0, 4, -1, "\xff\xff\xff\xff\x09"}, {"\x09\x09\x09", 0, 2, -2, "\xfe\xff\x09"}, {"\x09\x09", 0, 1, 256, "\x00\x09"},
		{"\x09\x09\x09\x09\x09", 0, 4, 1 << 32, "\x00\x00\x00\x00\x09"}, {"\x09\x09\x09", 0, 2, largest, "\xff\xff\x09"}, {"\x09\x09\x09", 0, 2, smallest, "\x00\x00\x09"},
	} {
		if got := PutLittle([]byte(c.bytes), c.at, c.size, c.value); string(got) != c.want {
			t.Errorf("PutLittle(% x, %d, %d, %d) is % x, want % x", c.bytes, c.at, c.size, c.value, got, c.want)
		}
	}
}

func TestP5_4PutLittlePlaces(t *testing.T) {
	values := []int{0, 1, 255, 256, 0x12345678, 1<<32 - 1, 1 << 32, 0x123456789abcdef0, -1, -2, -256, -257, -0x12345678, largest, smallest}
	for _, b := range samples() {
		before := bytes.Clone(b)
		for _, at := range places(len(b)) {
			for _, size := range append([]int{1, 2, 3, 4}, noSizes()...) {
				for _, value := range values {
					want := before
					if fits(len(b), at, size) {
						want = replaced(b, at, size, value)
					}
					if got := PutLittle(b, at, size, value); !bytes.Equal(got, want) {
						t.Errorf("PutLittle(% x, %d, %d, %d) is % x, want % x", before, at, size, value, got, want)
					}
				}
			}
		}
		if !bytes.Equal(b, before) {
			t.Errorf("PutLittle changed the bytes % x to % x", before, b)
		}
	}
}

// TestP5_4Memory checks that the result of PutLittle is new memory, also where it is an unchanged copy, and that the capacity is left alone.
func TestP5_4Memory(t *testing.T) {
	for _, c := range []struct{ at, size int }{{0, 4}, {1, 2}, {5, 1}, {3, 4}, {6, 1}, {-1, 1}, {0, 0}, {0, 5}, {largest, 4}} {
		room := []byte{1, 2, 3, 4, 5, 6, 0x55, 0x55, 0x55, 0x55}
		before := bytes.Clone(room)
		result := PutLittle(room[:6], c.at, c.size, -1)
		if len(result) != 6 || !bytes.Equal(room, before) {
			t.Errorf("PutLittle at %d with size %d gives %d bytes and changed % x to % x", c.at, c.size, len(result), before, room)
		}
		clear(result)
		if !bytes.Equal(room, before) {
			t.Errorf("the result of PutLittle at %d with size %d shares memory with its argument", c.at, c.size)
		}
		if Little(room[:6], 5, 2) != 0 {
			t.Error("Little reads a byte behind the length")
		}
	}
}

// TestP5_4Back reads the numbers that were put.
func TestP5_4Back(t *testing.T) {
	b := bytes.Repeat([]byte{0xa5}, 9)
	next := arbitrary()
	for range 1000 {
		value := next()
		for size := 1; size <= 4; size++ {
			at := int(uint(next()) % uint(len(b)-size+1))
			if got, want := Little(PutLittle(b, at, size, value), at, size), value&(1<<(8*size)-1); got != want {
				t.Errorf("%d is put and read at %d with size %d as %d, want %d", value, at, size, got, want)
			}
		}
	}
}
