package texel

import (
	"bytes"
	"encoding/hex"
	"math"
	"strings"
	"testing"

	"frustum/api"
	"frustum/minifloat"
)

// half is the format of half numbers, written out.
var half = api.FloatFormat{Exponent: 5, Mantissa: 10, Signed: true}

func formats() []api.TexelFormat {
	return []api.TexelFormat{api.R8, api.RGBA8, api.RGB565, api.RGB10A2, api.R16F, api.RGBA16F}
}

// noFormats returns numbers that are no formats, some of which look like one if bits are dropped.
func noFormats() []api.TexelFormat {
	result := []api.TexelFormat{0, 7, 8, 9, -1, -2, -6, -7, 16, 64, largest, largest - 1, smallest, smallest + 1, smallest + 2, smallest + 6}
	for _, f := range formats() {
		result = append(result, f+1<<8, f+1<<16, f+1<<32, f+1<<62, f-1<<8, f-1<<32, f-1<<62)
	}
	return result
}

func vector(x, y, z, w int) api.Vec4 {
	return api.Vec4{X: x, Y: y, Z: z, W: w}
}

// alone returns the vector whose component i is x; the others are 0.
func alone(i, x int) api.Vec4 {
	values := [4]int{}
	values[i] = x
	return vector(values[0], values[1], values[2], values[3])
}

// arbitrary returns a function that returns arbitrary ints, the same in each run.
func arbitrary() func() int {
	state := uint64(1)
	return func() int {
		state = state*6364136223846793005 + 1442695040888963407
		return int(state ^ state>>29)
	}
}

// telling returns components: the ends of the ranges, the numbers next to them, and others in between and beyond.
func telling() []int {
	return []int{0, one, one / 2, one/2 - 1, one/2 + 1, 1, one - 1, one + 1, -1, -2, -one, -one / 2, 2 * one, 3 * one, 256 * one, one / 3, one / 4, one / 63, one / 31, one / 1023,
		128, 129, 257, 64, 32, 1040, 2114, 2049 * one, -2051 * one, api.MaxValue, api.MaxValue + 1, -api.MaxValue, -api.MaxValue - 1, 1 << 40, -1 << 40, largest, smallest, largest - 1, smallest + 1}
}

// colors returns the colors in which one component is a telling one and the others are 0 or the same, and arbitrary ones.
func colors() []api.Vec4 {
	var result []api.Vec4
	for i, x := range telling() {
		for at := range 4 {
			result = append(result, alone(at, x))
		}
		others := append(telling()[i:], telling()[:i]...)
		result = append(result, vector(x, x, x, x), vector(x, others[1], others[2], others[3]), vector(others[7], others[5], others[3], x))
	}
	next := arbitrary()
	for range 2000 {
		c := vector(next(), next(), next(), next())
		result = append(result, c, vector(c.X&0x1ffff, c.Y&0x1ffff, c.Z&0xffff, c.W&0x1ffff), vector(c.X>>34, c.Y>>40, c.Z>>45, c.W>>36))
	}
	return result
}

// little returns the bytes of a number, the lowest one first.
func little(size, number int) []byte {
	var b []byte
	for range size {
		b = append(b, byte(number%256))
		number /= 256
	}
	return b
}

// number returns the number of bytes of which the lowest one is the first.
func number(b []byte) int {
	result := 0
	for i := len(b) - 1; i >= 0; i-- {
		result = 256*result + int(b[i])
	}
	return result
}

// expectedBytes returns what Encode must return, format by format.
func expectedBytes(f api.TexelFormat, c api.Vec4) []byte {
	switch f {
	case api.R8:
		return little(1, exactUNorm(c.X, 8))
	case api.RGBA8:
		return little(4, exactUNorm(c.X, 8)+exactUNorm(c.Y, 8)*power(8)+exactUNorm(c.Z, 8)*power(16)+exactUNorm(c.W, 8)*power(24))
	case api.RGB565:
		return little(2, exactUNorm(c.X, 5)*power(11)+exactUNorm(c.Y, 6)*power(5)+exactUNorm(c.Z, 5))
	case api.RGB10A2:
		return little(4, exactUNorm(c.X, 10)+exactUNorm(c.Y, 10)*power(10)+exactUNorm(c.Z, 10)*power(20)+exactUNorm(c.W, 2)*power(30))
	case api.R16F:
		return little(2, minifloat.Encode(half, c.X))
	case api.RGBA16F:
		var b []byte
		for _, x := range []int{c.X, c.Y, c.Z, c.W} {
			b = append(b, little(2, minifloat.Encode(half, x))...)
		}
		return b
	}
	return nil
}

// expectedColor returns what Decode must return, format by format.
func expectedColor(f api.TexelFormat, b []byte) api.Vec4 {
	part := func(shift, bits int) int {
		return exactFromUNorm(number(b)/power(shift)%power(bits), bits)
	}
	halfAt := func(at int) int {
		return minifloat.Decode(half, number(b[at:at+2]))
	}
	switch {
	case f == api.R8 && len(b) == 1:
		return vector(part(0, 8), 0, 0, one)
	case f == api.RGBA8 && len(b) == 4:
		return vector(part(0, 8), part(8, 8), part(16, 8), part(24, 8))
	case f == api.RGB565 && len(b) == 2:
		return vector(part(11, 5), part(5, 6), part(0, 5), one)
	case f == api.RGB10A2 && len(b) == 4:
		return vector(part(0, 10), part(10, 10), part(20, 10), part(30, 2))
	case f == api.R16F && len(b) == 2:
		return vector(halfAt(0), 0, 0, one)
	case f == api.RGBA16F && len(b) == 8:
		return vector(halfAt(0), halfAt(2), halfAt(4), halfAt(6))
	}
	return api.Vec4{}
}

// texels returns bytes of a format: all texels of up to 2 bytes; of the others, those with one bit, without one bit, and arbitrary ones.
func texels(f api.TexelFormat) [][]byte {
	size := len(expectedBytes(f, api.Vec4{}))
	var result [][]byte
	if size <= 2 {
		for n := range power(8 * size) {
			result = append(result, little(size, n))
		}
		return result
	}
	result = append(result, make([]byte, size), bytes.Repeat([]byte{255}, size))
	for bit := range 8 * size {
		single, others := make([]byte, size), bytes.Repeat([]byte{255}, size)
		single[bit/8] = byte(power(bit % 8))
		others[bit/8] -= byte(power(bit % 8))
		result = append(result, single, others)
	}
	next := arbitrary()
	for range 5000 {
		b := make([]byte, size)
		for i := range b {
			b[i] = byte(next() >> 20)
		}
		result = append(result, b)
	}
	return result
}

// bytesOf returns the bytes that are written by hexadecimal digits with spaces.
func bytesOf(t *testing.T, digits string) []byte {
	t.Helper()
	b, err := hex.DecodeString(strings.ReplaceAll(digits, " ", ""))
	if err != nil {
		t.Fatal(err)
	}
	return b
}

func checkEncode(t *testing.T, f api.TexelFormat, c api.Vec4, want []byte) {
	t.Helper()
	if got := Encode(f, c); !bytes.Equal(got, want) {
		t.Errorf("Encode(%d, %v) is % x, want % x", f, c, got, want)
	}
}

// checkDecode checks the color of bytes, and that the bytes are left as they are.
func checkDecode(t *testing.T, f api.TexelFormat, b []byte, want api.Vec4) {
	t.Helper()
	before := bytes.Clone(b)
	if got := Decode(f, b); got != want {
		t.Errorf("Decode(%d, % x) is %v, want %v", f, before, got, want)
	}
	if !bytes.Equal(b, before) {
		t.Errorf("Decode(%d, % x) changed the bytes to % x", f, before, b)
	}
}

func TestP9_2Formats(t *testing.T) {
	for _, c := range []struct {
		f                api.TexelFormat
		size, components int
	}{
		{api.R8, 1, 1}, {api.RGBA8, 4, 4}, {api.RGB565, 2, 3}, {api.RGB10A2, 4, 4}, {api.R16F, 2, 1}, {api.RGBA16F, 8, 4},
		{1, 1, 1}, {2, 4, 4}, {3, 2, 3}, {4, 4, 4}, {5, 2, 1}, {6, 8, 4},
	} {
		if size, components := Size(c.f), Components(c.f); size != c.size || components != c.components || !Valid(c.f) {
			t.Errorf("format %d has the size %d and %d components, and is valid: %t; want %d and %d", c.f, size, components, Valid(c.f), c.size, c.components)
		}
	}
	for _, f := range noFormats() {
		if size, components := Size(f), Components(f); size != 0 || components != 0 || Valid(f) {
			t.Errorf("%d, which is no format, has the size %d and %d components, and is valid: %t", f, size, components, Valid(f))
		}
	}
}

func TestP9_3Examples(t *testing.T) {
	for _, c := range []struct {
		f     api.TexelFormat
		color api.Vec4
		want  string
	}{
		{api.RGBA8, vector(one, 0, one/2, one), "ff 00 80 ff"}, {api.RGB565, vector(one, one, one, one), "ff ff"},
		{api.R8, vector(one, 0, 0, 0), "ff"}, {api.R8, vector(0, one, one, one), "00"}, {api.R8, vector(one/2, 0, 0, 0), "80"}, {api.R8, vector(-1, one, one, one), "00"}, {api.R8, vector(largest, 0, 0, 0), "ff"},
		{api.RGBA8, vector(one, one/2, one/4, 257), "ff 80 40 01"}, {api.RGBA8, vector(-one, 2*one, smallest, largest), "00 ff 00 ff"},
		{api.RGB565, vector(2114, 0, 0, 0), "00 08"}, {api.RGB565, vector(0, 1040, 0, 0), "20 00"}, {api.RGB565, vector(0, 0, 2114, 0), "01 00"}, {api.RGB565, vector(one/2, one/2, one/2, one/2), "10 84"},
		{api.RGB565, vector(-1, largest, smallest, one), "e0 07"}, {api.RGB565, vector(one+1, -one, 2*one, 0), "1f f8"},
		{api.RGB10A2, vector(64, 0, 0, 0), "01 00 00 00"}, {api.RGB10A2, vector(0, 64, 0, 0), "00 04 00 00"}, {api.RGB10A2, vector(0, 0, 64, 0), "00 00 10 00"}, {api.RGB10A2, vector(0, 0, 0, one/3), "00 00 00 40"},
		{api.RGB10A2, vector(0, 0, 0, one/2), "00 00 00 80"}, {api.RGB10A2, vector(one/2, one/2, one/2, one/2), "00 02 08 a0"}, {api.RGB10A2, vector(one, one, one, one), "ff ff ff ff"}, {api.RGB10A2, vector(largest, smallest, -1, one+1), "ff 03 00 c0"},
		{api.R16F, vector(one, 0, 0, 0), "00 3c"}, {api.R16F, vector(0, one, one, one), "00 00"}, {api.R16F, vector(-one, 0, 0, 0), "00 bc"}, {api.R16F, vector(one/3, 0, 0, 0), "55 35"}, {api.R16F, vector(1, 0, 0, 0), "00 01"},
		{api.R16F, vector(largest, 0, 0, 0), "00 70"}, {api.R16F, vector(smallest, 0, 0, 0), "00 f0"}, {api.R16F, vector(2049*one, 0, 0, 0), "00 68"},
		{api.RGBA16F, vector(one, one/2, -2*one, 3*one), "00 3c 00 38 00 c0 00 42"}, {api.RGBA16F, vector(largest, smallest, -1, 0), "00 70 00 f0 00 81 00 00"},
	} {
		checkEncode(t, c.f, c.color, bytesOf(t, c.want))
	}
}

// TestP9_3Alone encodes colors with one component, so that an exchanged order of components or bytes is seen.
func TestP9_3Alone(t *testing.T) {
	for _, c := range []struct {
		f    api.TexelFormat
		want [4]string
	}{
		{api.R8, [4]string{"ff", "00", "00", "00"}},
		{api.RGBA8, [4]string{"ff 00 00 00", "00 ff 00 00", "00 00 ff 00", "00 00 00 ff"}},
		{api.RGB565, [4]string{"00 f8", "e0 07", "1f 00", "00 00"}},
		{api.RGB10A2, [4]string{"ff 03 00 00", "00 fc 0f 00", "00 00 f0 3f", "00 00 00 c0"}},
		{api.R16F, [4]string{"00 3c", "00 00", "00 00", "00 00"}},
		{api.RGBA16F, [4]string{"00 3c 00 00 00 00 00 00", "00 00 00 3c 00 00 00 00", "00 00 00 00 00 3c 00 00", "00 00 00 00 00 00 00 3c"}},
	} {
		for i, want := range c.want {
			checkEncode(t, c.f, alone(i, one), bytesOf(t, want))
		}
	}
}

func TestP9_3Colors(t *testing.T) {
	for _, f := range formats() {
		for _, c := range colors() {
			checkEncode(t, f, c, expectedBytes(f, c))
		}
	}
	for _, f := range noFormats() {
		for _, c := range colors()[:100] {
			if got := Encode(f, c); got != nil {
				t.Errorf("Encode(%d, %v), which is no format, is % x", f, c, got)
			}
		}
	}
}

func TestP9_4Examples(t *testing.T) {
	for _, c := range []struct {
		f     api.TexelFormat
		bytes string
		want  api.Vec4
	}{
		{api.R8, "00", vector(0, 0, 0, one)}, {api.R8, "ff", vector(one, 0, 0, one)}, {api.R8, "80", vector(32897, 0, 0, one)},
		{api.RGBA8, "00 00 00 00", vector(0, 0, 0, 0)}, {api.RGBA8, "ff 01 80 fe", vector(one, 257, 32897, 65279)},
		{api.RGB565, "00 00", vector(0, 0, 0, one)}, {api.RGB565, "00 08", vector(2114, 0, 0, one)}, {api.RGB565, "20 00", vector(0, 1040, 0, one)}, {api.RGB565, "01 00", vector(0, 0, 2114, one)}, {api.RGB565, "ff ff", vector(one, one, one, one)},
		{api.RGB10A2, "01 00 00 00", vector(64, 0, 0, 0)}, {api.RGB10A2, "00 04 00 00", vector(0, 64, 0, 0)}, {api.RGB10A2, "00 00 10 00", vector(0, 0, 64, 0)}, {api.RGB10A2, "00 00 00 40", vector(0, 0, 0, 21845)}, {api.RGB10A2, "00 00 00 c0", vector(0, 0, 0, one)},
		{api.R16F, "00 3c", vector(one, 0, 0, one)}, {api.R16F, "00 00", vector(0, 0, 0, one)}, {api.R16F, "00 7c", vector(api.MaxValue, 0, 0, one)}, {api.R16F, "00 fc", vector(-api.MaxValue, 0, 0, one)}, {api.R16F, "01 7c", vector(0, 0, 0, one)}, {api.R16F, "00 b8", vector(-one/2, 0, 0, one)},
		{api.RGBA16F, "00 3c 00 38 00 c0 00 42", vector(one, one/2, -2*one, 3*one)}, {api.RGBA16F, "00 00 00 00 00 00 00 00", vector(0, 0, 0, 0)}, {api.RGBA16F, "00 7c 01 00 00 70 00 fc", vector(api.MaxValue, 0, api.MaxValue, -api.MaxValue)},
	} {
		checkDecode(t, c.f, bytesOf(t, c.bytes), c.want)
	}
}

func TestP9_4Texels(t *testing.T) {
	for _, f := range formats() {
		for _, b := range texels(f) {
			want := expectedColor(f, b)
			checkDecode(t, f, b, want)
			if Components(f) < 4 && want.W != one || Components(f) == 1 && (want.Y != 0 || want.Z != 0) {
				t.Errorf("the tests expect %v for format %d", want, f)
			}
		}
	}
}

// TestP9_4Nothing decodes bytes of a wrong length, and bytes of each length in what is no format.
func TestP9_4Nothing(t *testing.T) {
	room := []byte{1, 2, 3, 4, 0x3c, 0x3c, 0x3c, 0x3c, 255, 255, 255, 255}
	for _, f := range formats() {
		checkDecode(t, f, nil, api.Vec4{})
		checkDecode(t, f, []byte{}, api.Vec4{})
		checkDecode(t, f, make([]byte, 1000), api.Vec4{})
		size := len(expectedBytes(f, api.Vec4{}))
		for length := range len(room) + 1 {
			if length != size {
				checkDecode(t, f, room[:length], api.Vec4{})
				checkDecode(t, f, bytes.Clone(room[:length]), api.Vec4{})
			}
		}
	}
	for _, f := range noFormats() {
		checkDecode(t, f, nil, api.Vec4{})
		for length := range len(room) + 1 {
			checkDecode(t, f, room[:length], api.Vec4{})
		}
	}
}

func TestP9_4Quantize(t *testing.T) {
	for _, f := range formats() {
		for _, c := range colors() {
			got, want := Quantize(f, c), expectedColor(f, expectedBytes(f, c))
			if got != want {
				t.Errorf("Quantize(%d, %v) is %v, want %v", f, c, got, want)
			}
			if again := Quantize(f, got); again != got {
				t.Errorf("Quantize(%d, %v) is %v", f, got, again)
			}
		}
	}
	for _, c := range []struct {
		f           api.TexelFormat
		color, want api.Vec4
	}{
		{api.R8, vector(one/2, one, one, 0), vector(32897, 0, 0, one)}, {api.RGBA8, vector(-5, one+5, 1, 129), vector(0, one, 0, 257)}, {api.RGB565, vector(one/2, one/2, one/2, 0), vector(33825, 33288, 33825, one)},
		{api.RGB10A2, vector(1, 33, 64, one/2), vector(0, 64, 64, 43691)}, {api.R16F, vector(2049*one, 1, 1, 1), vector(2048*one, 0, 0, one)}, {api.RGBA16F, vector(largest, -1, 2049*one, 3*one), vector(api.MaxValue, -1, 2048*one, 3*one)},
	} {
		if got := Quantize(c.f, c.color); got != c.want {
			t.Errorf("Quantize(%d, %v) is %v, want %v", c.f, c.color, got, c.want)
		}
	}
	for _, f := range noFormats() {
		if got := Quantize(f, vector(one, one, one, one)); got != (api.Vec4{}) {
			t.Errorf("Quantize in %d, which is no format, is %v", f, got)
		}
	}
}

// TestP9_4Memory checks that Decode leaves alone what lies behind a texel, and that results of Encode are not the same memory.
func TestP9_4Memory(t *testing.T) {
	for _, f := range formats() {
		room := bytes.Repeat([]byte{0xa5}, 16)
		size := len(expectedBytes(f, api.Vec4{}))
		checkDecode(t, f, room[:size], expectedColor(f, bytes.Repeat([]byte{0xa5}, size)))
		if !bytes.Equal(room, bytes.Repeat([]byte{0xa5}, 16)) {
			t.Errorf("Decode in format %d changed what lies behind the texel to % x", f, room)
		}
		c := vector(one, one/2, one/3, one/4)
		first, second := Encode(f, c), Encode(f, c)
		first = first[:cap(first)]
		for i := range first {
			first[i] = 0x77
		}
		if want := expectedBytes(f, c); !bytes.Equal(second, want) || !bytes.Equal(Encode(f, c), want) {
			t.Errorf("results of Encode in format %d share memory", f)
		}
	}
}

// isRestored reports whether a half number is one of those that P9.5 does not except, by its exact number in a float64.
func isRestored(pattern int) bool {
	exponent, mantissa := pattern/1024%32, pattern%1024
	units := math.Ldexp(float64(mantissa), -24) * one
	if exponent != 0 {
		units = math.Ldexp(float64(1024+mantissa), exponent-25) * one
	}
	return exponent != 31 && units <= api.MaxValue && units >= 1 && units == math.Floor(units)
}

// restored returns the half numbers that P9.5 does not except.
func restored() []int {
	var patterns []int
	for pattern := range power(16) {
		if isRestored(pattern) {
			patterns = append(patterns, pattern)
		}
	}
	return patterns
}

func checkRestored(t *testing.T, f api.TexelFormat, b []byte) {
	t.Helper()
	if got := Encode(f, Decode(f, b)); !bytes.Equal(got, b) {
		t.Errorf("% x in format %d is decoded and encoded as % x", b, f, got)
	}
}

func TestP9_5Integers(t *testing.T) {
	for _, f := range []api.TexelFormat{api.R8, api.RGBA8, api.RGB565, api.RGB10A2} {
		for _, b := range texels(f) {
			checkRestored(t, f, b)
		}
	}
	// Each component takes all its values, while the others have all bits or none.
	for _, f := range []api.TexelFormat{api.RGBA8, api.RGB10A2} {
		for n := range power(10) {
			for _, shift := range []int{0, 8, 10, 16, 20, 24, 30} {
				low := n * power(shift) % power(32)
				checkRestored(t, f, little(4, low))
				checkRestored(t, f, little(4, power(32)-1-low))
			}
		}
	}
}

func TestP9_5Halves(t *testing.T) {
	patterns := restored()
	// With each sign, there are 1, 2, 4 .. 512 of them from 2^-16, 2^-15, 2^-14 .. 2^-7 on, and 1024 from each power of two from 2^-6 to 2^12 on.
	if want := 2 * (1023 + 1024*19); len(patterns) != want {
		t.Fatalf("there are %d half numbers that are restored, want %d", len(patterns), want)
	}
	for i, pattern := range patterns {
		checkRestored(t, api.R16F, little(2, pattern))
		others := little(6, patterns[len(patterns)-1-i]+patterns[(7*i)%len(patterns)]*power(16)+patterns[(11*i)%len(patterns)]*power(32))
		checkRestored(t, api.RGBA16F, append(little(2, pattern), others...))
		checkRestored(t, api.RGBA16F, append(others, little(2, pattern)...))
	}
}
