package buffer

import (
	"bytes"
	"math"
	"math/big"
	"slices"
	"testing"
)

const (
	largest  = math.MaxInt
	smallest = math.MinInt
	// spare is the number of bytes behind the buffers of the tests.
	spare = 8
)

// made returns a buffer with arbitrary bytes, and with others behind it.
func made(length int, seed uint64) []byte {
	state := seed*2654435761 + 99
	room := make([]byte, length+spare)
	for i := range room {
		state = state*6364136223846793005 + 1442695040888963407
		room[i] = byte(state >> 40)
	}
	return room[:length]
}

// watch returns a function that checks that a buffer, and what lies behind it, are as they were.
func watch(t *testing.T, b []byte) func(name string) {
	before := bytes.Clone(b[:cap(b)])
	return func(name string) {
		t.Helper()
		if !bytes.Equal(b[:cap(b)], before) {
			t.Errorf("%s changed its buffer, or shares memory with it", name)
		}
	}
}

// spoil overwrites all the memory of a result.
func spoil(b []byte) {
	b = b[:cap(b)]
	for i := range b {
		b[i] ^= 0xff
	}
}

// little returns the lowest bytes of a number in two's complement, the lowest one first, by exact division.
func little(x, size int) []byte {
	rest, base := big.NewInt(int64(x)), big.NewInt(256)
	var b []byte
	for range size {
		digit := new(big.Int)
		rest, digit = new(big.Int).DivMod(rest, base, digit)
		b = append(b, byte(digit.Int64()))
	}
	return b
}

// unsigned returns the number of bytes of which the lowest one is the first.
func unsigned(b []byte) int {
	number := 0
	for i := len(b) - 1; i >= 0; i-- {
		number = 256*number + int(b[i])
	}
	return number
}

// signed returns the number of four bytes in two's complement.
func signed(b []byte) int {
	if number := unsigned(b[:4]); number < 2147483648 {
		return number
	}
	return unsigned(b[:4]) - 4294967296
}

// indices returns those of a buffer, those next to it, and others that look like them if their product with 4 overflows.
func indices(length int) []int {
	result := []int{smallest, smallest + 1, largest, largest - 1, 1 << 60, 1 << 61, 1 << 62, 1<<62 + 1, 1<<62 - 1, 1<<61 + 1, -1 << 61, -1 << 62, 1 - 1<<62, 1 << 32, 1<<30 + 1, 1 << 30, -1 << 32}
	for index := -2; index <= (length+3)/4+1; index++ {
		result = append(result, index)
	}
	return result
}

// hasAll reports whether the four bytes from 4*index on exist, in exact integers.
func hasAll(length, index int) bool {
	end := new(big.Int).Mul(big.NewInt(int64(index)), big.NewInt(4))
	end.Add(end, big.NewInt(4))
	return index >= 0 && end.Cmp(big.NewInt(int64(length))) <= 0
}

func TestP14_1Examples(t *testing.T) {
	minus := []byte{255, 255, 255, 255}
	if LoadInt(minus, 0) != -1 || LoadInt(minus, 1) != 0 || LoadInt(minus, -1) != 0 {
		t.Errorf("the ints of % x are %d, %d and %d", minus, LoadInt(minus, 0), LoadInt(minus, 1), LoadInt(minus, -1))
	}
	for _, c := range []struct {
		b           string
		index, want int
	}{
		{"\x01\x02\x03\x04\x05\x06\x07\x08", 0, 0x04030201}, {"\x01\x02\x03\x04\x05\x06\x07\x08", 1, 0x08070605}, {"\x01\x02\x03\x04\x05\x06\x07\x08", 2, 0}, {"\x01\x02\x03\x04\x05\x06\x07", 1, 0}, {"\x01\x02\x03\x04\x05\x06\x07", 0, 0x04030201},
		{"\xff\xff\xff\x7f", 0, 1<<31 - 1}, {"\x00\x00\x00\x80", 0, -1 << 31}, {"\xfe\xff\xff\xff", 0, -2}, {"\x00\x00\x01\x00", 0, 65536}, {"\xff\xff\xff", 0, 0}, {"", 0, 0},
	} {
		if got := LoadInt([]byte(c.b), c.index); got != c.want {
			t.Errorf("the int %d of % x is %d, want %d", c.index, c.b, got, c.want)
		}
	}
	for _, c := range []struct {
		b            string
		index, value int
		want         string
	}{
		{"abcdefgh", 0, -1, "\xff\xff\xff\xffefgh"}, {"abcdefgh", 1, 1, "abcd\x01\x00\x00\x00"}, {"abcdefgh", 2, 1, "abcdefgh"}, {"abcdefgh", -1, 1, "abcdefgh"}, {"abcdefg", 1, 1, "abcdefg"}, {"abcdefg", 0, 0x04030201, "\x01\x02\x03\x04efg"},
		{"abcd", 0, 1 << 31, "\x00\x00\x00\x80"}, {"abcd", 0, -1 << 31, "\x00\x00\x00\x80"}, {"abcd", 0, 1<<31 - 1, "\xff\xff\xff\x7f"}, {"abcd", 0, -1<<31 - 1, "\xff\xff\xff\x7f"}, {"abcd", 0, 1<<32 + 5, "\x05\x00\x00\x00"}, {"abcd", 0, largest, "\xff\xff\xff\xff"}, {"abcd", 0, smallest, "\x00\x00\x00\x00"},
		{"abc", 0, 7, "abc"}, {"", 0, 7, ""},
	} {
		if got := StoreInt([]byte(c.b), c.index, c.value); string(got) != c.want {
			t.Errorf("%q with %d in place of int %d is %q, want %q", c.b, c.value, c.index, got, c.want)
		}
	}
}

// someBuffers returns nil and buffers of 0 to 13 bytes, and some whose bytes are alike.
func someBuffers() [][]byte {
	result := [][]byte{nil, {}}
	for length := range 14 {
		for seed := range uint64(20) {
			result = append(result, made(length, seed))
		}
		result = append(result, bytes.Repeat([]byte{255}, length), bytes.Repeat([]byte{128}, length), bytes.Repeat([]byte{127}, length), make([]byte, length))
	}
	return result
}

func TestP14_1LoadInt(t *testing.T) {
	for _, b := range someBuffers() {
		unchanged := watch(t, b)
		for _, index := range indices(len(b)) {
			want := 0
			if hasAll(len(b), index) {
				want = signed(b[4*index:])
			}
			if got := LoadInt(b, index); got != want {
				t.Errorf("the int %d of % x is %d, want %d", index, b, got, want)
			}
		}
		unchanged("LoadInt")
	}
}

// values returns numbers with each bit set alone, at and next to the ends of 32 bits and of int, and beyond them.
func values() []int {
	result := []int{smallest, smallest + 1, largest, largest - 1, 0x04030201, -0x04030201, 0x0807060504030201}
	for shift := range 63 {
		result = append(result, 1<<shift-1, 1<<shift, 1<<shift+1, -1<<shift-1, -1<<shift, -1<<shift+1)
	}
	return result
}

// checkStore checks that StoreInt replaces the bytes of an int, and nothing else, in a copy.
func checkStore(t *testing.T, b []byte, index, value int) {
	t.Helper()
	want := bytes.Clone(b)
	if hasAll(len(b), index) {
		copy(want[4*index:], little(value, 4))
	}
	unchanged := watch(t, b)
	first, second := StoreInt(b, index, value), StoreInt(b, index, value)
	if !bytes.Equal(first, want) {
		t.Errorf("% x with %d in place of int %d is % x, want % x", b, value, index, first, want)
	}
	spoil(first)
	if !bytes.Equal(second, want) {
		t.Error("results of StoreInt share memory")
	}
	unchanged("StoreInt")
}

func TestP14_1StoreInt(t *testing.T) {
	for n, b := range someBuffers() {
		for _, index := range indices(len(b)) {
			for i, value := range values() {
				if i%8 == n%8 || i < 4 {
					checkStore(t, b, index, value)
				}
			}
		}
	}
	b := made(13, 3)
	for _, value := range values() {
		for index := -1; index <= 4; index++ {
			checkStore(t, b, index, value)
		}
	}
}

// TestP14_1Restored checks that a stored int is loaded again, wrapped to 32 bits.
func TestP14_1Restored(t *testing.T) {
	b := made(12, 5)
	for _, value := range values() {
		for index := range 3 {
			stored := StoreInt(b, index, value)
			for i := range 3 {
				want := signed(b[4*i:])
				if i == index {
					want = signed(little(value, 4))
				}
				if got := LoadInt(stored, i); got != want {
					t.Errorf("after %d is stored as int %d, int %d is %d, want %d", value, index, i, got, want)
				}
			}
		}
	}
}

// TestP14_1Large loads from a buffer that is longer than MaxBytes, which limits buffers elsewhere only.
func TestP14_1Large(t *testing.T) {
	b := made(65536*4+7, 7)
	for _, index := range []int{0, 16383, 16384, 65535, 65536, 65537} {
		want := 0
		if hasAll(len(b), index) {
			want = signed(b[4*index:])
		}
		if got := LoadInt(b, index); got != want {
			t.Errorf("the int %d of %d bytes is %d, want %d", index, len(b), got, want)
		}
	}
	if slices.Equal(StoreInt(b, 65536, 1), b) {
		t.Error("the last int of a large buffer is not stored")
	}
}
