package mipmap

import (
	"bytes"
	"math"
	"testing"

	"frustum/api"
	"frustum/texel"
)

const (
	one      = api.One
	largest  = math.MaxInt
	smallest = math.MinInt
	// spare is the number of bytes behind the data of the images of the tests.
	spare = 16
)

func formats() []api.TexelFormat {
	return []api.TexelFormat{api.R8, api.RGBA8, api.RGB565, api.RGB10A2, api.R16F, api.RGBA16F}
}

func vector(x, y, z, w int) api.Vec4 {
	return api.Vec4{X: x, Y: y, Z: z, W: w}
}

// arbitrary returns a function that returns arbitrary ints, the same in each run.
func arbitrary(state uint64) func() int {
	return func() int {
		state = state*6364136223846793005 + 1442695040888963407
		return int(state ^ state>>29)
	}
}

// made returns an image with arbitrary bytes, and with others behind its data.
func made(f api.TexelFormat, width, height int, seed uint64) api.Image {
	next := arbitrary(seed)
	length := width * height * texel.Size(f)
	room := make([]byte, length+spare)
	for i := range room {
		room[i] = byte(next() >> 20)
	}
	return api.Image{Format: f, Width: width, Height: height, Data: room[:length]}
}

// unusable is an image that is not valid, with the reason.
type unusable struct {
	m   api.Image
	why string
}

// broken returns images of which one field alone is wrong, and some of which the product of the sides is right.
func broken() []unusable {
	result := []unusable{{api.Image{}, "zero value"}}
	add := func(f api.TexelFormat, width, height int, data []byte, why string) {
		result = append(result, unusable{api.Image{Format: f, Width: width, Height: height, Data: data}, why})
	}
	for _, f := range formats() {
		for _, sides := range [][2]int{{2, 3}, {1, 1}} {
			width, height := sides[0], sides[1]
			data := made(f, width, height, 5).Data
			for _, no := range []api.TexelFormat{0, 7, -1, -f, f + 1<<8, f + 1<<32, f - 1<<62, largest, smallest} {
				add(no, width, height, data, "format")
			}
			for _, side := range []int{0, -1, 4, 64, 65, -width, 1<<32 + width, 1<<62 + width, largest, smallest} {
				add(f, side, height, data, "width")
				add(f, width, side, data, "height")
			}
			for _, length := range []int{0, len(data) - 1, len(data) + 1, len(data) + spare, 2 * len(data)} {
				add(f, width, height, made(f, 4, 8, 6).Data[:length], "length")
			}
			add(f, width, height, nil, "nil")
		}
		add(f, -2, -3, made(f, 2, 3, 5).Data, "sides with the product of the length")
		add(f, 65, 1, made(f, 65, 1, 5).Data, "sides with the product of the length")
		add(f, 1, 65, made(f, 1, 65, 5).Data, "sides with the product of the length")
		add(f, 1<<62, 4, nil, "sides with the product 0 modulo 2^64")
	}
	return result
}

// single returns the texture with one level.
func single(m api.Image) api.Texture {
	return api.Texture{Levels: []api.Image{m}}
}

// allLevels returns the levels of textures, and those behind their last levels, one after the other.
func allLevels(textures []api.Texture) []api.Image {
	var result []api.Image
	for _, texture := range textures {
		result = append(result, texture.Levels[:cap(texture.Levels)]...)
	}
	return result
}

// watch returns a function that checks that textures and all that they refer to, also behind the lengths of slices, are as they were.
func watch(t *testing.T, textures ...api.Texture) func(name string) {
	before := allLevels(textures)
	var data [][]byte
	for _, m := range before {
		data = append(data, bytes.Clone(m.Data[:cap(m.Data)]))
	}
	return func(name string) {
		t.Helper()
		for i, m := range allLevels(textures) {
			was := before[i]
			if m.Format != was.Format || m.Width != was.Width || m.Height != was.Height || len(m.Data) != len(was.Data) || !bytes.Equal(m.Data[:cap(m.Data)], data[i]) {
				t.Errorf("%s changed its arguments, or shares memory with them", name)
			}
		}
	}
}

// spoil overwrites all the bytes of an image that is a result.
func spoil(m api.Image) {
	all := m.Data[:cap(m.Data)]
	for i := range all {
		all[i] ^= 0xff
	}
}

// isSame compares images field by field.
func isSame(a, b api.Image) bool {
	return a.Format == b.Format && a.Width == b.Width && a.Height == b.Height && string(a.Data) == string(b.Data)
}

// sizes returns the lengths of sides that the tests of Levels combine.
func sizes() []int {
	result := []int{smallest, smallest + 1, smallest + 64, largest, largest - 1, 1 << 32, 1<<32 + 1, 1<<62 + 64, 1 - 1<<32, -64, 256, 257}
	for size := -1; size <= 130; size++ {
		result = append(result, size)
	}
	return result
}

// halves returns the lengths of a side from level 0 to the level at which it has become 1, or nil if no image has such a side.
func halves(side int) []int {
	if side < 1 || side > 64 {
		return nil
	}
	result := []int{side}
	for side > 1 {
		side = (side - side%2) / 2
		result = append(result, side)
	}
	return result
}

// levelSizes returns the sizes of all levels.
func levelSizes(width, height int) [][2]int {
	widths, heights := halves(width), halves(height)
	if widths == nil || heights == nil {
		return nil
	}
	var result [][2]int
	for i := range max(len(widths), len(heights)) {
		result = append(result, [2]int{widths[min(i, len(widths)-1)], heights[min(i, len(heights)-1)]})
	}
	return result
}

func TestP12_1Examples(t *testing.T) {
	for _, c := range []struct{ width, height, want int }{
		{64, 1, 7}, {1, 64, 7}, {64, 64, 7}, {63, 63, 6}, {1, 1, 1}, {2, 1, 2}, {1, 2, 2}, {3, 3, 2}, {4, 3, 3}, {3, 4, 3}, {5, 3, 3}, {8, 1, 4}, {31, 32, 6}, {33, 2, 6},
		{65, 1, 0}, {1, 65, 0}, {0, 1, 0}, {1, 0, 0}, {0, 0, 0}, {-1, 5, 0}, {5, -1, 0}, {largest, 1, 0}, {1, largest, 0}, {smallest, 1, 0}, {64, smallest, 0}, {64, 65, 0},
	} {
		if got := Levels(c.width, c.height); got != c.want {
			t.Errorf("Levels(%d, %d) is %d, want %d", c.width, c.height, got, c.want)
		}
	}
	for _, c := range []struct{ width, height, level, wantWidth, wantHeight int }{
		{5, 3, 1, 2, 1}, {5, 3, 0, 5, 3}, {5, 3, 2, 1, 1}, {5, 3, 3, 0, 0}, {5, 3, -1, 0, 0}, {64, 1, 6, 1, 1}, {64, 1, 5, 2, 1}, {1, 64, 5, 1, 2}, {64, 64, 7, 0, 0}, {63, 8, 3, 7, 1}, {7, 63, 3, 1, 7},
		{1, 1, 0, 1, 1}, {1, 1, 1, 0, 0}, {65, 1, 0, 0, 0}, {0, 4, 0, 0, 0}, {4, -1, 0, 0, 0}, {64, 64, largest, 0, 0}, {64, 64, smallest, 0, 0}, {64, 64, 64, 0, 0}, {64, 64, 1 << 32, 0, 0},
	} {
		if width, height := LevelSize(c.width, c.height, c.level); width != c.wantWidth || height != c.wantHeight {
			t.Errorf("LevelSize(%d, %d, %d) is %d, %d, want %d, %d", c.width, c.height, c.level, width, height, c.wantWidth, c.wantHeight)
		}
	}
}

// TestP12_1Sizes compares Levels and LevelSize of all pairs of sides with sides that are halved one by one.
func TestP12_1Sizes(t *testing.T) {
	for _, width := range sizes() {
		for _, height := range sizes() {
			levels := levelSizes(width, height)
			if got := Levels(width, height); got != len(levels) {
				t.Errorf("Levels(%d, %d) is %d, want %d", width, height, got, len(levels))
			}
			for i, want := range levels {
				if w, h := LevelSize(width, height, i); w != want[0] || h != want[1] {
					t.Errorf("LevelSize(%d, %d, %d) is %d, %d, want %d, %d", width, height, i, w, h, want[0], want[1])
				}
			}
			for _, level := range []int{-1, len(levels), len(levels) + 1, 63, 64, smallest, largest, 1 << 32, -1 << 32, 1 << 62} {
				if w, h := LevelSize(width, height, level); w != 0 || h != 0 {
					t.Errorf("LevelSize(%d, %d, %d), which does not exist, is %d, %d", width, height, level, w, h)
				}
			}
		}
	}
}

// texelAt returns the color of a texel of an image that has it.
func texelAt(m api.Image, x, y int) api.Vec4 {
	size := texel.Size(m.Format)
	return texel.Decode(m.Format, m.Data[(y*m.Width+x)*size:][:size])
}

// quarter returns a quarter rounded to the nearest integer, halves away from zero.
func quarter(sum int) int {
	if sum < 0 {
		return -quarter(-sum)
	}
	return (sum + 2) / 4
}

// expectedReduce returns what Reduce must return for a valid image. Its sums are far from overflow, so that ints are exact.
func expectedReduce(m api.Image) api.Image {
	levels := levelSizes(m.Width, m.Height)
	if len(levels) == 1 {
		return m
	}
	result := api.Image{Format: m.Format, Width: levels[1][0], Height: levels[1][1]}
	for y := range result.Height {
		for x := range result.Width {
			var sum [4]int
			for i := range 4 {
				c := texelAt(m, min(2*x+i%2, m.Width-1), min(2*y+i/2, m.Height-1))
				for j, component := range []int{c.X, c.Y, c.Z, c.W} {
					sum[j] += component
				}
			}
			result.Data = append(result.Data, texel.Encode(m.Format, vector(quarter(sum[0]), quarter(sum[1]), quarter(sum[2]), quarter(sum[3])))...)
		}
	}
	return result
}

// checkReduce checks a result of Reduce, and that its memory is its own.
func checkReduce(t *testing.T, m, want api.Image) {
	t.Helper()
	unchanged := watch(t, single(m))
	first, second := Reduce(m), Reduce(m)
	if !isSame(first, want) {
		t.Errorf("Reduce of %v is %v, want %v", m, first, want)
	}
	spoil(first)
	if !isSame(second, want) {
		t.Errorf("results of Reduce share memory")
	}
	unchanged("Reduce")
}

func TestP12_2Examples(t *testing.T) {
	for _, c := range []struct {
		f             api.TexelFormat
		width, height int
		data          string
		wantWidth     int
		wantHeight    int
		want          string
	}{
		{api.R8, 2, 2, "\x00\x00\x00\x04", 1, 1, "\x01"},
		// A quarter of 514 is 128.5, which is rounded to 129 and stored as 1; 128 would be stored as 0.
		{api.R8, 2, 2, "\x00\x00\x00\x02", 1, 1, "\x01"},
		{api.R8, 2, 2, "\x00\x00\x00\x01", 1, 1, "\x00"},
		{api.R8, 2, 2, "\x02\x02\x02\x04", 1, 1, "\x03"},
		{api.R8, 2, 2, "\x00\x10\x20\x30", 1, 1, "\x18"},
		{api.R8, 3, 3, "\x00\x10\xff\x20\x30\xff\xff\xff\xff", 1, 1, "\x18"},
		{api.R8, 4, 2, "\x00\x04\x20\x28\x08\x0c\x30\x38", 2, 1, "\x06\x2c"},
		{api.R8, 2, 4, "\x00\x04\x08\x0c\x20\x28\x30\x38", 1, 2, "\x06\x2c"},
		{api.R8, 4, 1, "\x00\x10\x20\x40", 2, 1, "\x08\x30"},
		{api.R8, 1, 4, "\x00\x10\x20\x40", 1, 2, "\x08\x30"},
		{api.R8, 5, 1, "\x00\x10\x20\x40\xff", 2, 1, "\x08\x30"},
		{api.R8, 1, 5, "\x00\x10\x20\x40\xff", 1, 2, "\x08\x30"},
		{api.R8, 1, 2, "\x00\x10", 1, 1, "\x08"},
		{api.R8, 1, 1, "\x55", 1, 1, "\x55"},
		{api.RGBA8, 2, 1, "\x00\x10\x20\x30\x10\x30\x50\x70", 1, 1, "\x08\x20\x38\x50"},
		{api.RGBA8, 1, 1, "\x01\x02\x03\x04", 1, 1, "\x01\x02\x03\x04"},
		{api.R16F, 1, 1, "\x01\x7c", 1, 1, "\x01\x7c"},
		// 0x0100 is 1/One and 0x8100 is -1/One, so that halves of the smallest unit appear: 0.5 and -0.5 are rounded away from zero.
		{api.R16F, 2, 2, "\x00\x01\x00\x01\x00\x00\x00\x00", 1, 1, "\x00\x01"},
		{api.R16F, 2, 2, "\x00\x81\x00\x81\x00\x00\x00\x00", 1, 1, "\x00\x81"},
		{api.R16F, 2, 2, "\x00\x01\x00\x00\x00\x00\x00\x00", 1, 1, "\x00\x00"},
		{api.R16F, 2, 2, "\x00\x81\x00\x00\x00\x00\x00\x00", 1, 1, "\x00\x00"},
		{api.R16F, 2, 2, "\x00\x81\x00\x81\x00\x81\x00\x00", 1, 1, "\x00\x81"},
		{api.R16F, 2, 2, "\x00\x82\x00\x82\x00\x82\x00\x00", 1, 1, "\x00\x82"},
		{api.R16F, 2, 2, "\x00\x3c\x00\xbc\x00\x3c\x00\xbc", 1, 1, "\x00\x00"},
		{api.R16F, 2, 2, "\x00\x3c\x00\x3c\x00\x3c\x00\xbc", 1, 1, "\x00\x38"},
		{api.R16F, 2, 2, "\x00\xbc\x00\xc0\x00\xc2\x00\xbc", 1, 1, "\x00\xbf"},
		// The sum of infinite texels is that of four saturated numbers, and is not saturated itself.
		{api.R16F, 2, 2, "\x00\x7c\x00\x7c\x00\x7c\x00\x7c", 1, 1, "\x00\x70"},
		{api.R16F, 2, 2, "\x00\xfc\x00\xfc\x00\xfc\x00\xfc", 1, 1, "\x00\xf0"},
		{api.R16F, 2, 2, "\x00\x7c\x00\x7c\x00\x7c\x00\xfc", 1, 1, "\x00\x6c"},
		{api.R16F, 2, 1, "\x01\x7c\x00\x3c", 1, 1, "\x00\x38"},
	} {
		m := api.Image{Format: c.f, Width: c.width, Height: c.height, Data: []byte(c.data)}
		checkReduce(t, m, api.Image{Format: c.f, Width: c.wantWidth, Height: c.wantHeight, Data: []byte(c.want)})
	}
}

// sides returns the sizes of the images that the tests reduce: all small ones, and some with sides next to the limits.
func sides() [][2]int {
	result := [][2]int{{64, 64}, {63, 64}, {64, 63}, {63, 63}, {64, 1}, {1, 64}, {63, 1}, {1, 63}, {64, 2}, {2, 64}, {33, 17}, {20, 43}}
	for width := 1; width <= 8; width++ {
		for height := 1; height <= 8; height++ {
			result = append(result, [2]int{width, height})
		}
	}
	return result
}

// near returns an image whose components are small multiples of the smallest unit of a format, with both signs where it has them, so that averages lie on and next to rounding limits.
func near(f api.TexelFormat, width, height int, seed uint64) api.Image {
	m, next := api.Image{Format: f, Width: width, Height: height}, arbitrary(seed)
	unit := map[api.TexelFormat]int{api.R8: 257, api.RGBA8: 257, api.RGB565: 2114, api.RGB10A2: 64, api.R16F: 1, api.RGBA16F: 1}[f]
	small := func() int { return (next()>>33&7 - 3) * unit }
	for range width * height {
		m.Data = append(m.Data, texel.Encode(f, vector(small(), small(), small(), small()))...)
	}
	return m
}

func TestP12_2Reduce(t *testing.T) {
	for _, f := range formats() {
		for i, size := range sides() {
			for _, m := range []api.Image{made(f, size[0], size[1], uint64(i)), near(f, size[0], size[1], uint64(i))} {
				checkReduce(t, m, expectedReduce(m))
			}
		}
	}
}

// TestP12_2Rounding reduces all squares of four half numbers with up to three units, so that each remainder and each sign occurs.
func TestP12_2Rounding(t *testing.T) {
	for n := range 7 * 7 * 7 * 7 {
		m, sum := api.Image{Format: api.R16F, Width: 2, Height: 2}, 0
		for range 4 {
			x := n%7 - 3
			n, sum = n/7, sum+x
			m.Data = append(m.Data, texel.Encode(api.R16F, vector(x, 0, 0, 0))...)
		}
		want := api.Image{Format: api.R16F, Width: 1, Height: 1, Data: texel.Encode(api.R16F, vector(quarter(sum), 0, 0, 0))}
		checkReduce(t, m, want)
	}
}

func TestP12_2Broken(t *testing.T) {
	for _, b := range broken() {
		checkReduce(t, b.m, b.m)
	}
	if got := Reduce(api.Image{Format: api.R8, Width: 2, Height: 2, Data: []byte{}}); !isSame(got, api.Image{Format: api.R8, Width: 2, Height: 2}) {
		t.Errorf("Reduce of an image without data is %v", got)
	}
}

// isConstant reports whether all texels of an image have the same bytes.
func isConstant(m api.Image) bool {
	size := texel.Size(m.Format)
	return bytes.Equal(m.Data, bytes.Repeat(m.Data[:size], len(m.Data)/size))
}

// colors returns colors with components inside and outside of [0, One].
func colors() []api.Vec4 {
	result := []api.Vec4{{}, vector(one, one, one, one), vector(one, one/2, one/3, one/4), vector(-1, one+1, -one, 3*one), vector(largest, smallest, 1, one), vector(0, 0, 0, one), vector(one, 0, 0, 0), vector(129, 128, 257, 32)}
	next := arbitrary(3)
	for range 20 {
		result = append(result, vector(next()&0x1ffff, next()&0xffff, next()&0xffff, -(next()&0xffff)))
	}
	return result
}

// TestP12_5Colors checks that all levels of an image of one color have this color.
func TestP12_5Colors(t *testing.T) {
	for _, f := range formats() {
		for _, size := range [][2]int{{1, 1}, {8, 8}, {5, 3}, {3, 5}, {1, 7}, {64, 33}} {
			for _, c := range colors() {
				m := api.Image{Format: f, Width: size[0], Height: size[1], Data: bytes.Repeat(texel.Encode(f, c), size[0]*size[1])}
				texture, code := Chain(m)
				if code != api.OK || len(texture.Levels) != len(levelSizes(size[0], size[1])) {
					t.Fatalf("Chain of %v gives %d levels with %d", m, len(texture.Levels), code)
				}
				for i, level := range texture.Levels {
					if !isConstant(level) || !bytes.HasPrefix(level.Data, texel.Encode(f, c)) {
						t.Errorf("level %d of an image of the color %v in format %d is %v", i, c, f, level)
					}
				}
			}
		}
	}
}

// TestP12_5Bytes does the same for texels with arbitrary bytes, some of which no color is encoded as.
func TestP12_5Bytes(t *testing.T) {
	next := arbitrary(5)
	for _, f := range formats() {
		texels := [][]byte{make([]byte, texel.Size(f)), bytes.Repeat([]byte{255}, texel.Size(f)), bytes.Repeat([]byte{0, 0x7c, 1, 0xfc}, 2)[:texel.Size(f)], bytes.Repeat([]byte{1, 0, 0, 0xfc}, 2)[:texel.Size(f)]}
		for range 100 {
			b := make([]byte, texel.Size(f))
			for i := range b {
				b[i] = byte(next() >> 20)
			}
			texels = append(texels, b)
		}
		for _, b := range texels {
			texture, code := Chain(api.Image{Format: f, Width: 6, Height: 9, Data: bytes.Repeat(b, 54)})
			if code != api.OK || len(texture.Levels) != 4 || !bytes.Equal(texture.Levels[0].Data[:len(b)], b) {
				t.Errorf("Chain of the texel % x in format %d is %v with %d", b, f, texture, code)
			}
			for i, m := range texture.Levels {
				if color := texel.Decode(f, b); !isConstant(m) || texelAt(m, 0, 0) != color {
					t.Errorf("level %d of the texel % x in format %d, whose color is %v, is %v", i, b, f, color, m)
				}
			}
		}
	}
}
