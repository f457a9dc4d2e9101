package buffer

import (
	"bytes"
	"slices"
	"testing"

	"frustum/api"
	"frustum/minifloat"
)

const one = api.One

// half is the format of half numbers, written out.
var half = api.FloatFormat{Exponent: 5, Mantissa: 10, Signed: true}

// layout is a format with its components and the bytes of each.
type layout struct {
	f                api.VertexFormat
	components, size int
}

func layouts() []layout {
	return []layout{{api.Fixed1, 1, 4}, {api.Fixed2, 2, 4}, {api.Fixed3, 3, 4}, {api.Fixed4, 4, 4}, {api.UNorm8x4, 4, 1}, {api.Half2, 2, 2}, {api.Half4, 4, 2}, {api.Int1, 1, 4}}
}

// total returns the number of bytes of an attribute.
func (l layout) total() int {
	return l.components * l.size
}

// noFormats returns numbers that are no formats, some of which look like one if bits are dropped.
func noFormats() []api.VertexFormat {
	result := []api.VertexFormat{0, 9, 10, -1, -2, -8, 16, largest, largest - 1, smallest, smallest + 1, smallest + 8}
	for _, l := range layouts() {
		result = append(result, l.f+1<<8, l.f+1<<32, l.f+1<<62, l.f-1<<8, l.f-1<<32)
	}
	return result
}

func TestP14_2Formats(t *testing.T) {
	for i, l := range layouts() {
		if got, size := Components(l.f), Size(l.f); got != l.components || size != l.total() || int(l.f) != i+1 {
			t.Errorf("format %d has %d components in %d bytes, want %d in %d", l.f, got, size, l.components, l.total())
		}
	}
	for i, want := range [][2]int{{1, 4}, {2, 8}, {3, 12}, {4, 16}, {4, 4}, {2, 4}, {4, 8}, {1, 4}} {
		if f := api.VertexFormat(i + 1); Components(f) != want[0] || Size(f) != want[1] {
			t.Errorf("format %d has %d components in %d bytes, want %v", f, Components(f), Size(f), want)
		}
	}
	for _, f := range noFormats() {
		if got, size := Components(f), Size(f); got != 0 || size != 0 {
			t.Errorf("%d, which is no format, has %d components in %d bytes", f, got, size)
		}
	}
}

// brokenAttributes returns attributes of which one field alone is wrong, and some of which all are.
func brokenAttributes() []api.Attribute {
	result := []api.Attribute{{}, {Buffer: -1, Offset: -1, Stride: -1, Format: -1}, {Buffer: largest, Offset: largest, Stride: largest, Format: largest}, {Buffer: smallest, Offset: smallest, Stride: smallest, Format: smallest}}
	for _, l := range layouts() {
		for _, x := range []int{-1, -2, smallest, smallest + 1, largest, largest - 1, 1 << 32, 1<<32 + 1, -1 << 32, 1 << 62, -1 << 62} {
			result = append(result, api.Attribute{Buffer: x, Stride: 16, Format: l.f}, api.Attribute{Offset: x, Stride: 16, Format: l.f}, api.Attribute{Stride: x, Format: l.f})
		}
		for more := range 3 {
			result = append(result, api.Attribute{Buffer: 4 + more, Stride: 16, Format: l.f}, api.Attribute{Offset: 4097 + more, Stride: 16, Format: l.f}, api.Attribute{Stride: 257 + more, Format: l.f})
		}
	}
	for _, f := range noFormats() {
		result = append(result, api.Attribute{Format: f}, api.Attribute{Buffer: 3, Offset: 12, Stride: 16, Format: f})
	}
	return result
}

func TestP14_2ValidAttribute(t *testing.T) {
	for _, l := range layouts() {
		for _, buffer := range []int{0, 1, 2, 3} {
			for _, offset := range []int{0, 1, 5, 4095, 4096} {
				for _, stride := range []int{0, 1, 3, 255, 256} {
					if a := (api.Attribute{Buffer: buffer, Offset: offset, Stride: stride, Format: l.f}); !ValidAttribute(a) {
						t.Errorf("%+v is not valid", a)
					}
				}
			}
		}
	}
	for _, a := range brokenAttributes() {
		if ValidAttribute(a) {
			t.Errorf("%+v is valid", a)
		}
	}
}

// limited returns x limited to the saturated numbers.
func limited(x int) int {
	return max(-536870911, min(x, 536870911))
}

// loaded returns the component that is stored in bytes.
func loaded(f api.VertexFormat, b []byte) int {
	switch f {
	case api.Int1:
		return signed(b)
	case api.UNorm8x4:
		// The nearest integer to n*One/255; halves do not occur, because 255 is odd.
		return (2*int(b[0])*one + 255) / 510
	case api.Half2, api.Half4:
		return minifloat.Decode(half, unsigned(b))
	}
	return limited(signed(b))
}

// expectedLoad returns what LoadAttribute must return for a valid attribute whose bytes begin at an index of a buffer that has them.
func expectedLoad(l layout, b []byte, first int) []int {
	var result []int
	for i := range l.components {
		result = append(result, loaded(l.f, b[first+i*l.size:][:l.size]))
	}
	return result
}

// checkLoad checks the components of a vertex, and that the memory of results is their own.
func checkLoad(t *testing.T, b []byte, a api.Attribute, vertex int, want []int) {
	t.Helper()
	first, second := LoadAttribute(b, a, vertex), LoadAttribute(b, a, vertex)
	if !slices.Equal(first, want) {
		t.Errorf("%+v of vertex %d in %d bytes is %v, want %v", a, vertex, len(b), first, want)
	}
	for i := range first[:cap(first)] {
		first[:cap(first)][i] ^= -1
	}
	if !slices.Equal(second, want) {
		t.Error("results of LoadAttribute share memory")
	}
}

func TestP14_3Examples(t *testing.T) {
	b := []byte{0, 0, 1, 0, 255, 255, 255, 255, 0, 60, 0, 192, 128, 0, 255, 1, 255, 255, 255, 127, 0, 0, 0, 128}
	for _, c := range []struct {
		a      api.Attribute
		vertex int
		want   []int
	}{
		{api.Attribute{Format: api.Fixed1}, 0, []int{one}}, {api.Attribute{Format: api.Fixed1}, 5, []int{one}}, {api.Attribute{Format: api.Fixed1, Stride: 4}, 1, []int{-1}}, {api.Attribute{Format: api.Fixed1, Offset: 4}, 0, []int{-1}},
		{api.Attribute{Format: api.Fixed2}, 0, []int{one, -1}}, {api.Attribute{Format: api.Fixed2, Offset: 16}, 0, []int{api.MaxValue, -api.MaxValue}}, {api.Attribute{Format: api.Fixed3, Offset: 12}, 0, []int{33489024, api.MaxValue, -api.MaxValue}}, {api.Attribute{Format: api.Fixed4}, 0, []int{one, -1, -api.MaxValue, 33489024}},
		{api.Attribute{Format: api.Int1, Offset: 16}, 0, []int{1<<31 - 1}}, {api.Attribute{Format: api.Int1, Offset: 20}, 0, []int{-1 << 31}}, {api.Attribute{Format: api.Int1, Stride: 1, Offset: 1}, 3, []int{-1}},
		{api.Attribute{Format: api.UNorm8x4, Offset: 12}, 0, []int{32897, 0, one, 257}}, {api.Attribute{Format: api.UNorm8x4, Stride: 6}, 2, []int{32897, 0, one, 257}},
		{api.Attribute{Format: api.Half2, Offset: 8}, 0, []int{one, -2 * one}}, {api.Attribute{Format: api.Half4, Offset: 4, Stride: 2}, 1, []int{0, one, -2 * one, 1}}, {api.Attribute{Format: api.Half4, Offset: 8}, 0, []int{one, -2 * one, 1, 2}},
		{api.Attribute{Format: api.Fixed2, Offset: 17}, 0, []int{0, 0}}, {api.Attribute{Format: api.Fixed4, Stride: 8}, 1, []int{-api.MaxValue, 33489024, api.MaxValue, -api.MaxValue}}, {api.Attribute{Format: api.Fixed4, Stride: 9}, 1, []int{0, 0, 0, 0}}, {api.Attribute{Format: api.Half2}, -1, []int{0, 0}},
		{api.Attribute{Format: api.Fixed1, Buffer: 3}, 65536, []int{one}}, {api.Attribute{Format: api.Fixed1}, 65537, []int{0}}, {api.Attribute{Format: 9}, 0, nil}, {api.Attribute{Format: api.Fixed1, Buffer: 4}, 0, nil}, {api.Attribute{Format: api.Fixed1, Offset: 4097}, -1, nil},
	} {
		unchanged := watch(t, b)
		checkLoad(t, b, c.a, c.vertex, c.want)
		unchanged("LoadAttribute")
	}
}

// TestP14_3Bits loads attributes with each bit set alone, and with each bit clear alone.
func TestP14_3Bits(t *testing.T) {
	for _, l := range layouts() {
		a := api.Attribute{Format: l.f, Offset: 3, Stride: 5}
		for bit := range 8 * l.total() {
			for _, others := range []byte{0, 255} {
				b := bytes.Repeat([]byte{others}, 8+l.total())
				b[8+bit/8] ^= 1 << (bit % 8)
				unchanged := watch(t, b)
				checkLoad(t, b, a, 1, expectedLoad(l, b, 8))
				unchanged("LoadAttribute")
			}
		}
	}
}

// TestP14_3Components loads all bytes of UNorm8x4 and all half numbers, in each component.
func TestP14_3Components(t *testing.T) {
	for _, l := range layouts() {
		if l.size == 4 {
			continue
		}
		for n := range 1 << (8 * l.size) {
			for i := range l.components {
				b := bytes.Repeat([]byte{0x35}, l.total())
				copy(b[i*l.size:], little(n, l.size))
				if got, want := LoadAttribute(b, api.Attribute{Format: l.f}, 0), expectedLoad(l, b, 0); !slices.Equal(got, want) {
					t.Errorf("% x in format %d is %v, want %v", b, l.f, got, want)
				}
			}
		}
	}
}

// TestP14_3Places loads each vertex that a buffer has, and those beyond, with buffers that end behind the attribute or one byte before.
func TestP14_3Places(t *testing.T) {
	for _, l := range layouts() {
		for _, offset := range []int{0, 1, 2, 7, 4095, 4096} {
			for _, stride := range []int{0, 1, 2, 5, 16, 255, 256} {
				a := api.Attribute{Buffer: 2, Offset: offset, Stride: stride, Format: l.f}
				for last := range 4 {
					first := offset + last*stride
					b := made(first+l.total(), uint64(offset+stride))
					unchanged := watch(t, b)
					for vertex := range last + 1 {
						checkLoad(t, b, a, vertex, expectedLoad(l, b, offset+vertex*stride))
					}
					nothing := make([]int, l.components)
					checkLoad(t, b[:len(b)-1], a, last, nothing)
					checkLoad(t, b[:first], a, last, nothing)
					checkLoad(t, b[:first/2], a, last, nothing)
					if stride > 0 {
						checkLoad(t, b, a, last+1, nothing)
						checkLoad(t, b, a, api.MaxBytes, nothing)
					} else {
						checkLoad(t, b, a, api.MaxBytes, expectedLoad(l, b, offset))
					}
					for _, vertex := range []int{-1, -2, smallest, smallest + 1, largest, api.MaxBytes + 1, 1 << 32, 1<<32 + 1, -1 << 32, 1 << 56, 1 << 60, 1 << 62, -1 << 62} {
						checkLoad(t, b, a, vertex, nothing)
					}
					unchanged("LoadAttribute")
				}
			}
		}
		checkLoad(t, nil, api.Attribute{Format: l.f}, 0, make([]int, l.components))
		checkLoad(t, []byte{}, api.Attribute{Format: l.f, Stride: 4}, 0, make([]int, l.components))
	}
}

// TestP14_3Last loads the vertex MaxBytes, the last one that is loaded, and the next one from buffers that have both.
func TestP14_3Last(t *testing.T) {
	for _, l := range layouts() {
		for _, stride := range []int{0, 1, 3, 16, 256} {
			a := api.Attribute{Offset: 4096, Stride: stride, Format: l.f}
			first := 4096 + 65536*stride
			b := made(first+stride+l.total(), 21)
			checkLoad(t, b, a, 65536, expectedLoad(l, b, first))
			checkLoad(t, b, a, 65535, expectedLoad(l, b, first-stride))
			checkLoad(t, b, a, 65537, make([]int, l.components))
			checkLoad(t, b[:first+l.total()], a, 65536, expectedLoad(l, b, first))
			checkLoad(t, b[:first+l.total()-1], a, 65536, make([]int, l.components))
		}
	}
}

func TestP14_3Broken(t *testing.T) {
	b := made(40000, 23)
	unchanged := watch(t, b)
	for _, a := range brokenAttributes() {
		for _, vertex := range []int{0, 1, -1, api.MaxBytes, api.MaxBytes + 1, largest, smallest} {
			if got := LoadAttribute(b, a, vertex); got != nil {
				t.Errorf("%+v of vertex %d, which is not valid, is %v", a, vertex, got)
			}
			if got := LoadAttribute(nil, a, vertex); got != nil {
				t.Errorf("%+v of vertex %d in nothing, which is not valid, is %v", a, vertex, got)
			}
		}
	}
	unchanged("LoadAttribute")
}

// stored returns the bytes of a component.
func stored(l layout, x int) []byte {
	switch l.f {
	case api.Int1:
		return little(x, 4)
	case api.UNorm8x4:
		c := max(0, min(x, one))
		return []byte{byte((2*c*255 + one) / (2 * one))}
	case api.Half2, api.Half4:
		return little(minifloat.Encode(half, x), 2)
	}
	return little(limited(x), 4)
}

// checkAppend checks the bytes that are appended, and that the memory of results is their own.
func checkAppend(t *testing.T, b []byte, f api.VertexFormat, list []int, added []byte) {
	t.Helper()
	want := append(bytes.Clone(b), added...)
	unchanged, before := watch(t, b), slices.Clone(list[:cap(list)])
	first, second := AppendAttribute(b, f, list), AppendAttribute(b, f, list)
	if !bytes.Equal(first, want) {
		t.Errorf("% x with %v in format %d is % x, want % x", b, list, f, first, want)
	}
	spoil(first)
	if !bytes.Equal(second, want) {
		t.Error("results of AppendAttribute share memory")
	}
	unchanged("AppendAttribute")
	if !slices.Equal(list[:cap(list)], before) {
		t.Errorf("AppendAttribute changed %v to %v", before, list)
	}
}

func TestP14_4Examples(t *testing.T) {
	for _, c := range []struct {
		b    string
		f    api.VertexFormat
		list []int
		want string
	}{
		{"ab", api.Fixed1, []int{one}, "\x00\x00\x01\x00"}, {"", api.Fixed1, []int{-1, 7}, "\xff\xff\xff\xff"}, {"x", api.Fixed1, nil, "\x00\x00\x00\x00"}, {"", api.Fixed2, []int{1}, "\x01\x00\x00\x00\x00\x00\x00\x00"}, {"", api.Fixed3, []int{1, -2, 3}, "\x01\x00\x00\x00\xfe\xff\xff\xff\x03\x00\x00\x00"},
		{"", api.Fixed4, []int{1 << 40, -1 << 40, largest, smallest}, "\xff\xff\xff\x1f\x01\x00\x00\xe0\xff\xff\xff\x1f\x01\x00\x00\xe0"}, {"", api.Fixed4, []int{1, 2, 3, 4, 5}, "\x01\x00\x00\x00\x02\x00\x00\x00\x03\x00\x00\x00\x04\x00\x00\x00"},
		{"abc", api.UNorm8x4, []int{one, one / 2, -1, 2 * one}, "\xff\x80\x00\xff"}, {"", api.UNorm8x4, []int{128, 129, smallest, largest, one}, "\x00\x01\x00\xff"}, {"", api.UNorm8x4, []int{one}, "\xff\x00\x00\x00"},
		{"", api.Half2, []int{one, -2 * one}, "\x00\x3c\x00\xc0"}, {"", api.Half2, []int{largest}, "\x00\x70\x00\x00"}, {"", api.Half4, []int{one, one / 2, 3 * one, -1, 9}, "\x00\x3c\x00\x38\x00\x42\x00\x81"},
		{"", api.Int1, []int{-2}, "\xfe\xff\xff\xff"}, {"", api.Int1, []int{1<<31 + 5, 3}, "\x05\x00\x00\x80"}, {"", api.Int1, []int{1<<32 + 7}, "\x07\x00\x00\x00"}, {"", api.Int1, []int{}, "\x00\x00\x00\x00"}, {"", api.Int1, []int{smallest}, "\x00\x00\x00\x00"}, {"", api.Int1, []int{largest}, "\xff\xff\xff\xff"},
		{"abc", 9, []int{1, 2, 3, 4}, ""}, {"abc", 0, nil, ""}, {"", -1, []int{1}, ""},
	} {
		checkAppend(t, []byte(c.b), c.f, c.list, []byte(c.want))
	}
}

// TestP14_4Values appends each value in each component, with too few, enough and too many values.
func TestP14_4Values(t *testing.T) {
	all := values()
	for _, l := range layouts() {
		for n, x := range all {
			for length := range 7 {
				list := make([]int, 0, length+3)
				for i := range length {
					list = append(list, all[(n+i*i*37)%len(all)])
				}
				if length > 0 {
					list[n%length] = x
				}
				var want []byte
				for i := range l.components {
					component := 0
					if i < length {
						component = list[i]
					}
					want = append(want, stored(l, component)...)
				}
				checkAppend(t, made(n%5, uint64(n)), l.f, list, want)
			}
		}
		zeros := make([]byte, l.total())
		checkAppend(t, nil, l.f, nil, zeros)
		checkAppend(t, nil, l.f, []int{}, zeros)
		checkAppend(t, []byte{}, l.f, nil, zeros)
		checkAppend(t, made(9, 1), l.f, nil, zeros)
	}
}

// TestP14_4Bytes appends all numbers from 0 to One, and some beyond, so that each rounding limit of UNorm8x4 is seen.
func TestP14_4Bytes(t *testing.T) {
	l := layouts()[4]
	for x := -300; x <= one+300; x++ {
		if got, want := AppendAttribute(nil, l.f, []int{0, x, one - x, x}), slices.Concat([]byte{0}, stored(l, x), stored(l, one-x), stored(l, x)); !bytes.Equal(got, want) {
			t.Errorf("%d is appended as % x, want % x", x, got, want)
		}
	}
	// Between the bytes n and n + 1 the limit is (n + 1/2)*One/255, which is an integer for n = 127 only: there it belongs to the byte above.
	for n := range 255 {
		limit := ((2*n+1)*one - 1) / 510
		if got := AppendAttribute(nil, l.f, []int{limit, limit + 1}); got[0] != byte(n) || got[1] != byte(n+1) {
			t.Errorf("%d and the next number are appended as % x, want %d and %d", limit, got, n, n+1)
		}
	}
}

func TestP14_4NoFormat(t *testing.T) {
	for _, f := range noFormats() {
		for _, list := range [][]int{nil, {}, {1}, {1, 2, 3, 4}, {1, 2, 3, 4, 5}} {
			for _, b := range [][]byte{nil, {}, made(1, 1), made(13, 2)} {
				checkAppend(t, b, f, list, nil)
			}
		}
	}
}

// TestP14_5 checks that values that were appended in a Fixed format are loaded again, saturated, whatever lies before and behind them.
func TestP14_5(t *testing.T) {
	all := values()
	for _, l := range layouts()[:4] {
		for n := range all {
			var list, want []int
			for i := range l.components {
				list = append(list, all[(n+i*11)%len(all)])
				want = append(want, limited(list[i]))
			}
			for before := range 3 {
				b := AppendAttribute(made(before*l.total()+n%7, 3), l.f, list)
				b = append(b, 1, 2, 3)
				a := api.Attribute{Offset: n % 7, Stride: l.total(), Format: l.f}
				checkLoad(t, b, a, before, want)
			}
		}
	}
}
