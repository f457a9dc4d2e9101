package fetch

import (
	"bytes"
	"math"
	"math/big"
	"slices"
	"testing"

	"frustum/api"
)

const (
	largest  = math.MaxInt
	smallest = math.MinInt
	// spare is the number of items behind the lists of the tests.
	spare = 8
)

// sized is an index type with the number of bytes of an index.
type sized struct {
	t    api.IndexType
	size int
}

func sizes() []sized {
	return []sized{{api.NoIndex, 0}, {api.Index8, 1}, {api.Index16, 2}, {api.Index32, 4}}
}

// noTypes returns numbers that are no index types, some of which look like one if bits are dropped.
func noTypes() []api.IndexType {
	result := []api.IndexType{0, 5, 6, 7, 8, -1, -2, -3, -4, largest, largest - 1, smallest, smallest + 1, smallest + 4}
	for _, s := range sizes() {
		result = append(result, s.t+1<<8, s.t+1<<32, s.t+1<<62, s.t-1<<8, s.t-1<<32)
	}
	return result
}

// made returns a list with arbitrary bytes, and with others behind it.
func made(length int, seed uint64) []byte {
	state := seed*2654435761 + 99
	room := make([]byte, length+spare)
	for i := range room {
		state = state*6364136223846793005 + 1442695040888963407
		room[i] = byte(state >> 40)
	}
	return room[:length]
}

// watch returns a function that checks that a list, and what lies behind it, are as they were.
func watch[T comparable](t *testing.T, list []T) func(name string) {
	before := slices.Clone(list[:cap(list)])
	return func(name string) {
		t.Helper()
		if !slices.Equal(list[:cap(list)], before) {
			t.Errorf("%s changed its list, or shares memory with it", name)
		}
	}
}

// spoil overwrites all the memory of a result.
func spoil(list []int) {
	list = list[:cap(list)]
	for i := range list {
		list[i] ^= -1
	}
}

// expectedIndex returns what Index must return, byte by byte, with the places of the bytes as exact integers.
func expectedIndex(data []byte, s sized, i int) int {
	if s.size == 0 {
		return max(i, 0)
	}
	number, unit := 0, 1
	for k := range s.size {
		at := new(big.Int).Mul(big.NewInt(int64(i)), big.NewInt(int64(s.size)))
		at.Add(at, big.NewInt(int64(k)))
		if at.Sign() < 0 || at.Cmp(big.NewInt(int64(len(data)))) >= 0 {
			return 0
		}
		number += unit * int(data[at.Int64()])
		unit *= 256
	}
	if number == unit-1 {
		return -1
	}
	return number
}

// places returns the indices of a list with so many elements, those next to it, and others that look like them if their product with a size overflows.
func places(count int) []int {
	result := []int{smallest, smallest + 1, smallest + 2, largest, largest - 1, 1 << 62, 1<<62 + 1, 1<<62 + 2, 1<<62 - 1, 1 << 61, 1<<61 + 1, -1 << 62, 1 - 1<<62, 1 - 1<<61, 1 << 32, 1<<32 + 1, 1 << 31, -1 << 32, 1 - 1<<32, 256, 65536}
	for i := -2; i <= count+1; i++ {
		result = append(result, i)
	}
	return result
}

// someLists returns nil and lists of 0 to 13 bytes: arbitrary ones, and ones whose bytes are alike but for one bit.
func someLists() [][]byte {
	result := [][]byte{nil, {}}
	for length := range 14 {
		for seed := range uint64(10) {
			result = append(result, made(length, seed))
		}
		for _, x := range []byte{0, 1, 127, 128, 254, 255} {
			result = append(result, bytes.Repeat([]byte{x}, length))
		}
		for bit := range 8 * length {
			almost := bytes.Repeat([]byte{255}, length)
			almost[bit/8] ^= 1 << (bit % 8)
			result = append(result, almost)
		}
	}
	return result
}

func TestP15_1IndexSize(t *testing.T) {
	for i, s := range sizes() {
		if got := IndexSize(s.t); got != s.size || int(s.t) != i+1 {
			t.Errorf("the size of index type %d is %d, want %d", s.t, got, s.size)
		}
	}
	for _, unknown := range noTypes() {
		if got := IndexSize(unknown); got != -1 {
			t.Errorf("the size of %d, which is no index type, is %d", unknown, got)
		}
	}
}

func TestP15_1Examples(t *testing.T) {
	for _, c := range []struct {
		data    string
		t       api.IndexType
		i, want int
	}{
		{"\x05\xff", api.Index8, 0, 5}, {"\x05\xff", api.Index8, 1, -1}, {"\x05\xff", api.Index8, 2, 0}, {"\x05\xff", api.Index8, -1, 0}, {"\x80", api.Index8, 0, 128}, {"\xfe", api.Index8, 0, 254}, {"\x7f", api.Index8, 0, 127},
		{"\x05\xff", api.Index16, 0, 0xff05}, {"\x05\xff", api.Index16, 1, 0}, {"\xff\xff\x01\x02\x03", api.Index16, 0, -1}, {"\xff\xff\x01\x02\x03", api.Index16, 1, 513}, {"\xff\xff\x01\x02\x03", api.Index16, 2, 0}, {"\xfe\xff", api.Index16, 0, 65534}, {"\xff\xfe", api.Index16, 0, 65279}, {"\xff\x00", api.Index16, 0, 255}, {"\x00\x80", api.Index16, 0, 32768}, {"\xff", api.Index16, 0, 0},
		{"\xff\xff\xff\xff", api.Index32, 0, -1}, {"\xfe\xff\xff\xff", api.Index32, 0, 4294967294}, {"\xff\xff\xff\xfe", api.Index32, 0, 4278190079}, {"\x00\x00\x00\x80", api.Index32, 0, 2147483648}, {"\xff\xff\xff\x7f", api.Index32, 0, 2147483647}, {"\x01\x02\x03\x04\x05\x06\x07\x08", api.Index32, 1, 0x08070605}, {"\x01\x02\x03\x04\x05\x06\x07", api.Index32, 1, 0}, {"\xff\xff\xff", api.Index32, 0, 0}, {"\xff\xff\x00\x00", api.Index32, 0, 65535}, {"\xff\x00\x00\x00", api.Index32, 0, 255},
		{"", api.Index8, 0, 0}, {"", api.Index16, 0, 0}, {"", api.Index32, 0, 0}, {"\x01\x02\x03\x04", api.Index32, 1 << 62, 0}, {"\x01\x02\x03\x04", api.Index32, largest, 0}, {"\x01\x02\x03\x04", api.Index32, smallest, 0}, {"\x01\x02\x03\x04", api.Index8, smallest, 0},
		{"", api.NoIndex, 0, 0}, {"", api.NoIndex, 7, 7}, {"\xff\xff", api.NoIndex, 1, 1}, {"\xff\xff", api.NoIndex, 2, 2}, {"", api.NoIndex, -1, 0}, {"", api.NoIndex, largest, largest}, {"", api.NoIndex, smallest, 0}, {"\xff", api.NoIndex, 255, 255}, {"\xff", api.NoIndex, 65535, 65535}, {"\xff", api.NoIndex, 1<<32 - 1, 1<<32 - 1},
		{"\x01\x02\x03\x04\x05\x06\x07\x08", 0, 0, 0}, {"\x01\x02\x03\x04\x05\x06\x07\x08", 5, 1, 0}, {"\x01\x02\x03\x04\x05\x06\x07\x08", -1, 1, 0}, {"", 0, 3, 0}, {"", 5, largest, 0},
	} {
		if got := Index([]byte(c.data), c.t, c.i); got != c.want {
			t.Errorf("element %d of % x with type %d is %d, want %d", c.i, c.data, c.t, got, c.want)
		}
	}
}

func TestP15_1Index(t *testing.T) {
	for _, data := range someLists() {
		unchanged := watch(t, data)
		for _, s := range sizes() {
			for _, i := range places(len(data) / max(s.size, 1)) {
				if got, want := Index(data, s.t, i), expectedIndex(data, s, i); got != want {
					t.Errorf("element %d of % x with type %d is %d, want %d", i, data, s.t, got, want)
				}
			}
		}
		unchanged("Index")
	}
}

// TestP15_1Values reads all indices of 8 and 16 bits, and those of 32 bits with one bit set or clear, in the middle of a list.
func TestP15_1Values(t *testing.T) {
	var values []int
	for bit := range 32 {
		values = append(values, 1<<bit, 1<<32-1-1<<bit, 1<<bit-1)
	}
	for n := range 1 << 16 {
		values = append(values, n, 1<<32-1-n)
	}
	for _, s := range sizes()[1:] {
		for _, n := range values {
			data := make([]byte, 3*s.size)
			for k := range s.size {
				data[s.size+k] = byte(n >> (8 * k))
			}
			if got, want := Index(data, s.t, 1), expectedIndex(data, s, 1); got != want {
				t.Errorf("% x is read as %d with type %d, want %d", data, got, s.t, want)
			}
		}
	}
}

func TestP15_1NoTypes(t *testing.T) {
	for _, unknown := range noTypes() {
		for _, data := range [][]byte{nil, {}, made(13, 1), bytes.Repeat([]byte{255}, 8)} {
			for _, i := range places(13) {
				if got := Index(data, unknown, i); got != 0 {
					t.Errorf("element %d of % x with type %d, which is unknown, is %d", i, data, unknown, got)
				}
			}
		}
	}
}

// within returns x, or the end of [0, most] that it is beyond.
func within(x, most int) int {
	if x < 0 {
		return 0
	}
	if x > most {
		return most
	}
	return x
}

// checkIndices checks Indices with a known type, and that the memory of results is their own.
func checkIndices(t *testing.T, data []byte, s sized, first, count int) {
	t.Helper()
	var want []int
	for i := range within(count, 1024) {
		want = append(want, expectedIndex(data, s, within(first, 65536)+i))
	}
	unchanged := watch(t, data)
	one, two := Indices(data, s.t, first, count), Indices(data, s.t, first, count)
	if !slices.Equal(one, want) {
		t.Errorf("%d elements from %d on, of %d bytes with type %d: %v, want %v", count, first, len(data), s.t, one, want)
	}
	spoil(one)
	if !slices.Equal(two, want) {
		t.Error("results of Indices share memory")
	}
	unchanged("Indices")
}

func TestP15_2Examples(t *testing.T) {
	for _, c := range []struct {
		data         string
		t            api.IndexType
		first, count int
		want         []int
	}{
		{"\x05\xff\x07", api.Index8, 0, 3, []int{5, -1, 7}}, {"\x05\xff\x07", api.Index8, 1, 1, []int{-1}}, {"\x05\xff\x07", api.Index8, 2, 3, []int{7, 0, 0}}, {"\x05\xff\x07", api.Index8, 3, 2, []int{0, 0}}, {"\x05\xff\x07", api.Index8, -1, 2, []int{5, -1}}, {"\x05\xff\x07", api.Index8, smallest, 1, []int{5}},
		{"\x05\xff\x07", api.Index8, largest, 2, []int{0, 0}}, {"\x05\xff\x07", api.Index8, 0, 0, nil}, {"\x05\xff\x07", api.Index8, 0, -1, nil}, {"\x05\xff\x07", api.Index8, 0, smallest, nil}, {"\x05\x01\xff\xff\x07", api.Index16, 0, 3, []int{261, -1, 0}}, {"\x05\x00\x00\x80\xff\xff\xff\xff", api.Index32, 0, 3, []int{2147483653, -1, 0}},
		{"", api.NoIndex, 0, 3, []int{0, 1, 2}}, {"\xff", api.NoIndex, 7, 2, []int{7, 8}}, {"", api.NoIndex, -5, 2, []int{0, 1}}, {"", api.NoIndex, 65535, 2, []int{65535, 65536}}, {"", api.NoIndex, 65536, 3, []int{65536, 65537, 65538}}, {"", api.NoIndex, 65537, 2, []int{65536, 65537}}, {"", api.NoIndex, largest, 1, []int{65536}}, {"", api.NoIndex, 3, 0, nil},
		{"\x05\xff\x07", 0, 0, 2, nil}, {"\x05\xff\x07", 5, 0, 2, nil}, {"\x05\xff\x07", -1, 0, 2, nil},
	} {
		if got := Indices([]byte(c.data), c.t, c.first, c.count); !slices.Equal(got, c.want) {
			t.Errorf("%d elements from %d on, of % x with type %d: %v, want %v", c.count, c.first, c.data, c.t, got, c.want)
		}
	}
}

// ends returns numbers at both ends of [0, most], one beyond them, and far beyond them.
func ends(most int) []int {
	return []int{0, 1, 2, most - 1, most, most + 1, most + 2, -1, -2, -most, 1 << 31, 1 << 32, 1<<32 + 1, -1 << 32, 1 - 1<<32, 1 << 62, -1 << 62, largest - most, largest - 1, largest, smallest, smallest + 1, smallest + most}
}

func TestP15_2Ends(t *testing.T) {
	lists := [][]byte{nil, {}, made(13, 1), made(65536, 2), made(65537, 3), made(65536+1024, 4), made(4*65536+4*5+3, 5), made(4*(65536+1024), 6)}
	for _, s := range sizes() {
		for _, data := range lists {
			for _, first := range ends(65536) {
				for _, count := range []int{0, 1, 3, 1024, -1, largest, smallest} {
					checkIndices(t, data, s, first, count)
				}
			}
			for _, count := range ends(1024) {
				checkIndices(t, data, s, 0, count)
				checkIndices(t, data, s, 65536, count)
				checkIndices(t, data, s, len(data)/max(s.size, 1)-2, count)
			}
		}
	}
}

func TestP15_2Indices(t *testing.T) {
	for _, data := range someLists() {
		for _, s := range sizes() {
			for first := -2; first <= len(data)+1; first++ {
				checkIndices(t, data, s, first, len(data)/2)
				checkIndices(t, data, s, first, len(data)+3)
			}
		}
	}
}

func TestP15_2NoTypes(t *testing.T) {
	for _, unknown := range noTypes() {
		for _, data := range [][]byte{nil, {}, made(13, 1)} {
			for _, first := range ends(65536) {
				for _, count := range ends(1024) {
					if got := Indices(data, unknown, first, count); got != nil {
						t.Errorf("%d elements from %d on, of % x with type %d, which is unknown: %v", count, first, data, unknown, got)
					}
				}
			}
		}
	}
}
