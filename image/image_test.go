package image

import (
	"bytes"
	"math"
	"testing"

	"frustum/api"
	"frustum/texel"
)

const (
	one      = api.One
	largest  = math.MaxInt
	smallest = math.MinInt
	// spare is the number of bytes behind the data of the images of the tests.
	spare = 16
)

// sized is a format with the size of its texels, written out.
type sized struct {
	f    api.TexelFormat
	size int
}

func formats() []sized {
	return []sized{{api.R8, 1}, {api.RGBA8, 4}, {api.RGB565, 2}, {api.RGB10A2, 4}, {api.R16F, 2}, {api.RGBA16F, 8}}
}

// noFormats returns numbers that are no formats, some of which look like one if bits are dropped.
func noFormats() []api.TexelFormat {
	result := []api.TexelFormat{0, 7, 8, -1, -2, -6, 64, largest, smallest, smallest + 1, largest - 1}
	for _, s := range formats() {
		result = append(result, s.f+1<<8, s.f+1<<32, s.f-1<<8, s.f-1<<62)
	}
	return result
}

// noSides returns numbers that are no sides of images, some of which look like one if bits are dropped.
func noSides() []int {
	return []int{0, -1, -2, -3, -64, 65, 66, 128, 256, 257, 1 << 16, 1<<32 + 1, 1 << 32, 1 << 62, 1<<62 + 1, largest, largest - 1, smallest, smallest + 1, smallest + 64, 1 - 1<<32}
}

func vector(x, y, z, w int) api.Vec4 {
	return api.Vec4{X: x, Y: y, Z: z, W: w}
}

// arbitrary returns a function that returns arbitrary ints, the same in each run.
func arbitrary(state uint64) func() int {
	return func() int {
		state = state*6364136223846793005 + 1442695040888963407
		return int(state ^ state>>29)
	}
}

// colors returns colors with components inside and outside of [0, One].
func colors() []api.Vec4 {
	result := []api.Vec4{{}, vector(one, one, one, one), vector(one, one/2, one/3, one/4), vector(-1, one+1, -one, 3*one), vector(largest, smallest, 1, one), vector(0, 0, 0, one), vector(one, 0, 0, 0)}
	next := arbitrary(3)
	for range 5 {
		result = append(result, vector(next()&0x1ffff, next()&0xffff, next()&0xffff, next()&0xffff))
	}
	return result
}

// made returns an image with arbitrary bytes, and with others behind its data.
func made(s sized, width, height int, seed uint64) api.Image {
	next := arbitrary(seed)
	room := make([]byte, width*height*s.size+spare)
	for i := range room {
		room[i] = byte(next() >> 20)
	}
	return api.Image{Format: s.f, Width: width, Height: height, Data: room[:width*height*s.size]}
}

// texelBytes returns the bytes of a texel of an image that has it.
func texelBytes(m api.Image, size, x, y int) []byte {
	first := 0
	for range y {
		first += m.Width * size
	}
	for range x {
		first += size
	}
	return m.Data[first : first+size]
}

// unusable is an image that is not valid, with the reason.
type unusable struct {
	m   api.Image
	why string
}

// broken returns images that are not valid because of one field, or because of sides whose product is right.
func broken() []unusable {
	var result []unusable
	add := func(m api.Image, why string) { result = append(result, unusable{m, why}) }
	for _, s := range formats() {
		good := made(s, 2, 3, 5)
		for _, f := range noFormats() {
			add(api.Image{Format: f, Width: 2, Height: 3, Data: good.Data}, "format")
		}
		for _, side := range append(noSides(), 1, 3, 4, 6, 12, 64) {
			add(api.Image{Format: s.f, Width: side, Height: 3, Data: good.Data}, "width")
			if side != 3 {
				add(api.Image{Format: s.f, Width: 2, Height: side, Data: good.Data}, "height")
			}
		}
		for _, length := range []int{0, 1, 6*s.size - 1, 6*s.size + 1, 6*s.size + spare, 12 * s.size} {
			if length != 6*s.size {
				add(api.Image{Format: s.f, Width: 2, Height: 3, Data: make([]byte, length)}, "length")
			}
		}
		add(api.Image{Format: s.f, Width: 2, Height: 3, Data: good.Data[:6*s.size-1]}, "one byte behind the length")
		add(api.Image{Format: s.f, Width: 2, Height: 3}, "nil")
		for _, sides := range [][2]int{{-2, -3}, {65, 1}, {1, 65}, {-1, -1}, {1, 130}} {
			add(api.Image{Format: s.f, Width: sides[0], Height: sides[1], Data: make([]byte, sides[0]*sides[1]*s.size)}, "sides with the product of the length")
		}
		for _, sides := range [][2]int{{0, 0}, {0, 5}, {5, 0}, {1 << 62, 4}, {4, 1 << 62}, {1 << 32, 1 << 32}, {smallest, 2}, {2, smallest}} {
			add(api.Image{Format: s.f, Width: sides[0], Height: sides[1]}, "sides with the product 0 modulo 2^64")
		}
	}
	add(api.Image{}, "zero value")
	return result
}

// watch returns a function that checks that images, their bytes, and those behind them are as they were.
func watch(t *testing.T, images ...*api.Image) func(name string) {
	var before []api.Image
	for _, m := range images {
		was := *m
		was.Data = bytes.Clone(m.Data[:cap(m.Data)])
		before = append(before, was)
	}
	return func(name string) {
		t.Helper()
		for i, m := range images {
			was := before[i]
			if m.Format != was.Format || m.Width != was.Width || m.Height != was.Height || !bytes.Equal(m.Data[:cap(m.Data)], was.Data) {
				t.Errorf("%s changed its image, or shares memory with it", name)
			}
		}
	}
}

// spoil overwrites all the memory of a result.
func spoil(m api.Image) {
	all := m.Data[:cap(m.Data)]
	for i := range all {
		all[i] ^= 0xff
	}
}

// isEqual compares images field by field.
func isEqual(a, b api.Image) bool {
	return a.Format == b.Format && a.Width == b.Width && a.Height == b.Height && string(a.Data) == string(b.Data)
}

func checkImage(t *testing.T, name string, got, want api.Image) {
	t.Helper()
	if !isEqual(got, want) {
		t.Errorf("%s is %v, want %v", name, got, want)
	}
}

func TestP10_2Examples(t *testing.T) {
	m, code := New(api.RGBA8, 4, 4)
	if code != api.OK || Get(m, 0, 0) != (api.Vec4{}) || Get(m, -1, 0) != (api.Vec4{}) {
		t.Errorf("a new image is %v with %d, and has the texels %v and %v", m, code, Get(m, 0, 0), Get(m, -1, 0))
	}
}

func TestP10_1New(t *testing.T) {
	sides := append(noSides(), 1, 2, 3, 7, 63, 64)
	good := map[int]bool{1: true, 2: true, 3: true, 7: true, 63: true, 64: true}
	check := func(f api.TexelFormat, width, height int, want api.Image, wantCode api.Errno) {
		t.Helper()
		if m, code := New(f, width, height); code != wantCode || !isEqual(m, want) {
			t.Errorf("New(%d, %d, %d) has the format %d, the size %d x %d and %d bytes, with %d, want %d", f, width, height, m.Format, m.Width, m.Height, len(m.Data), code, wantCode)
		}
	}
	for _, width := range sides {
		for _, height := range sides {
			for _, s := range formats() {
				if good[width] && good[height] {
					want := api.Image{Format: s.f, Width: width, Height: height, Data: make([]byte, width*height*s.size)}
					check(s.f, width, height, want, api.OK)
				} else {
					check(s.f, width, height, api.Image{}, api.ErrSize)
				}
			}
			for _, f := range noFormats() {
				check(f, width, height, api.Image{}, api.ErrFormat)
			}
		}
	}
}

func TestP10_1NewMemory(t *testing.T) {
	for _, s := range formats() {
		first, _ := New(s.f, 3, 2)
		second, _ := New(s.f, 3, 2)
		spoil(first)
		third, _ := New(s.f, 3, 2)
		want := api.Image{Format: s.f, Width: 3, Height: 2, Data: make([]byte, 6*s.size)}
		checkImage(t, "another new image", second, want)
		checkImage(t, "a later new image", third, want)
	}
}

func TestP10_1Valid(t *testing.T) {
	for _, s := range formats() {
		for _, width := range []int{1, 2, 3, 63, 64} {
			for _, height := range []int{1, 2, 3, 63, 64} {
				m := made(s, width, height, 1)
				unchanged := watch(t, &m)
				if !Valid(m) {
					t.Errorf("an image of format %d and size %d x %d is not valid", s.f, width, height)
				}
				unchanged("Valid")
			}
		}
	}
	for _, b := range broken() {
		if Valid(b.m) {
			t.Errorf("an image of format %d, size %d x %d and %d bytes is valid (%s)", b.m.Format, b.m.Width, b.m.Height, len(b.m.Data), b.why)
		}
	}
	// Formats whose texels have the same size share their data.
	if !Valid(api.Image{Format: api.RGB10A2, Width: 2, Height: 1, Data: made(sized{api.RGBA8, 4}, 2, 1, 1).Data}) {
		t.Error("the data of another format with the same size are not valid")
	}
}

// beyond returns coordinates at which an image of this size has no texel, some of which are one if bits are dropped.
func beyond(width, height int) [][2]int {
	result := [][2]int{{-1, -1}, {width, height}, {-1, height}, {width, -1}}
	for x := range width {
		for _, y := range []int{-1, height, height + 1, -height, smallest, smallest + 1, largest, largest - 1, 1 << 32, -1 << 32, 1 << 62, -1 << 62} {
			result = append(result, [2]int{x, y})
		}
	}
	for y := range height {
		for _, x := range []int{-1, width, width + 1, -width, smallest, smallest + 1, largest, largest - 1, 1 << 32, -1 << 32, 1 << 62, -1 << 62} {
			result = append(result, [2]int{x, y})
		}
	}
	for _, x := range []int{smallest, largest, 1 << 62} {
		for _, y := range []int{smallest, largest, 1 << 62} {
			result = append(result, [2]int{x, y})
		}
	}
	return result
}

func TestP10_1Offset(t *testing.T) {
	for _, s := range formats() {
		for _, sides := range [][2]int{{1, 1}, {3, 2}, {2, 3}, {64, 1}, {1, 64}, {64, 64}} {
			m := made(s, sides[0], sides[1], 1)
			unchanged := watch(t, &m)
			want := 0
			for y := range m.Height {
				for x := range m.Width {
					if got := Offset(m, x, y); got != want {
						t.Errorf("the offset of texel (%d, %d) in format %d and size %v is %d, want %d", x, y, s.f, sides, got, want)
					}
					want += s.size
				}
			}
			for _, at := range beyond(m.Width, m.Height) {
				if got := Offset(m, at[0], at[1]); got != -1 {
					t.Errorf("the offset of texel %v in format %d and size %v is %d", at, s.f, sides, got)
				}
			}
			unchanged("Offset")
		}
	}
	m := api.Image{Format: api.RGBA8, Width: 5, Height: 4, Data: make([]byte, 80)}
	if Offset(m, 0, 0) != 0 || Offset(m, 1, 0) != 4 || Offset(m, 0, 1) != 20 || Offset(m, 4, 3) != 76 || Offset(m, 5, 0) != -1 || Offset(m, 0, 4) != -1 {
		t.Error("an offset is wrong")
	}
}

// someCoordinates returns coordinates at which images that are not valid might be accessed.
func someCoordinates() [][2]int {
	return [][2]int{{0, 0}, {1, 0}, {0, 1}, {1, 2}, {-1, 0}, {0, -1}, {-1, -1}, {2, 3}, {largest, 0}, {0, largest}, {smallest, smallest}}
}

func TestP10_1Broken(t *testing.T) {
	for _, b := range broken() {
		unchanged := watch(t, &b.m)
		for _, at := range someCoordinates() {
			if got := Offset(b.m, at[0], at[1]); got != -1 {
				t.Errorf("the offset of texel %v of an image that is not valid (%s) is %d", at, b.why, got)
			}
		}
		unchanged("Offset")
	}
}

func TestP10_2Get(t *testing.T) {
	for _, s := range formats() {
		for _, sides := range [][2]int{{1, 1}, {3, 2}, {2, 3}, {64, 2}, {2, 64}} {
			m := made(s, sides[0], sides[1], 7)
			unchanged := watch(t, &m)
			for y := range m.Height {
				for x := range m.Width {
					if got, want := Get(m, x, y), texel.Decode(s.f, texelBytes(m, s.size, x, y)); got != want {
						t.Errorf("texel (%d, %d) in format %d and size %v is %v, want %v", x, y, s.f, sides, got, want)
					}
				}
			}
			for _, at := range beyond(m.Width, m.Height) {
				if got := Get(m, at[0], at[1]); got != (api.Vec4{}) {
					t.Errorf("texel %v, which format %d and size %v do not have, is %v", at, s.f, sides, got)
				}
			}
			unchanged("Get")
		}
	}
	m := api.Image{Format: api.R8, Width: 2, Height: 2, Data: []byte{0, 255, 128, 1}}
	for _, c := range []struct {
		x, y int
		want api.Vec4
	}{
		{0, 0, vector(0, 0, 0, one)}, {1, 0, vector(one, 0, 0, one)}, {0, 1, vector(32897, 0, 0, one)}, {1, 1, vector(257, 0, 0, one)},
		{2, 0, api.Vec4{}}, {0, 2, api.Vec4{}}, {-1, 0, api.Vec4{}}, {0, -1, api.Vec4{}}, {-1, 1, api.Vec4{}}, {2, -1, api.Vec4{}},
	} {
		if got := Get(m, c.x, c.y); got != c.want {
			t.Errorf("texel (%d, %d) is %v, want %v", c.x, c.y, got, c.want)
		}
	}
}

// checkSet checks that Set replaces the bytes from an index on, and nothing else, in a copy.
func checkSet(t *testing.T, m api.Image, x, y int, c api.Vec4, at int, b []byte) {
	t.Helper()
	want := m
	want.Data = bytes.Clone(m.Data)
	for i := range b {
		want.Data[at+i] = b[i]
	}
	unchanged := watch(t, &m)
	got := Set(m, x, y, c)
	checkImage(t, "an image with a texel set", got, want)
	spoil(got)
	unchanged("Set")
}

func TestP10_2Set(t *testing.T) {
	for _, s := range formats() {
		for _, sides := range [][2]int{{1, 1}, {3, 2}, {2, 3}} {
			m := made(s, sides[0], sides[1], 9)
			for _, c := range colors() {
				at := 0
				for y := range m.Height {
					for x := range m.Width {
						checkSet(t, m, x, y, c, at, texel.Encode(s.f, c))
						at += s.size
					}
				}
			}
			for _, at := range beyond(m.Width, m.Height) {
				checkSet(t, m, at[0], at[1], vector(one, one/2, one, one/2), 0, nil)
			}
		}
	}
	m := api.Image{Format: api.RGB565, Width: 2, Height: 2, Data: []byte{1, 2, 3, 4, 5, 6, 7, 8}}
	if got := Set(m, 1, 0, vector(one, 0, 0, 0)); string(got.Data) != "\x01\x02\x00\xf8\x05\x06\x07\x08" {
		t.Errorf("an image with a red texel has the bytes % x", got.Data)
	}
}

// TestP10_2Broken reads and writes images that are not valid.
func TestP10_2Broken(t *testing.T) {
	for _, b := range broken() {
		for _, at := range someCoordinates() {
			if got := Get(b.m, at[0], at[1]); got != (api.Vec4{}) {
				t.Errorf("texel %v of an image that is not valid (%s) is %v", at, b.why, got)
			}
			checkSet(t, b.m, at[0], at[1], vector(one, one, one, one), 0, nil)
		}
		unchanged := watch(t, &b.m)
		filled := Fill(b.m, vector(one, one, one, one))
		checkImage(t, "a filled image that is not valid", filled, b.m)
		spoil(filled)
		unchanged("Fill")
	}
}

func TestP10_2Fill(t *testing.T) {
	for _, s := range formats() {
		for _, sides := range [][2]int{{1, 1}, {3, 2}, {1, 5}, {64, 64}} {
			for _, c := range colors() {
				m := made(s, sides[0], sides[1], 11)
				want := m
				want.Data = nil
				for range sides[0] * sides[1] {
					want.Data = append(want.Data, texel.Encode(s.f, c)...)
				}
				unchanged := watch(t, &m)
				got := Fill(m, c)
				checkImage(t, "a filled image", got, want)
				spoil(got)
				unchanged("Fill")
			}
		}
	}
	m := api.Image{Format: api.RGB565, Width: 1, Height: 3, Data: make([]byte, 6)}
	if got := Fill(m, vector(one, 0, 0, 0)); string(got.Data) != "\x00\xf8\x00\xf8\x00\xf8" {
		t.Errorf("a red image has the bytes % x", got.Data)
	}
}

// TestP10_4 checks that Get of Set is the quantized color, and that the other texels stay as they were.
func TestP10_4(t *testing.T) {
	for _, s := range formats() {
		m := made(s, 4, 3, 13)
		for _, c := range colors() {
			for i := range 12 {
				set := Set(m, i%4, i/4, c)
				for j := range 12 {
					want := Get(m, j%4, j/4)
					if i == j {
						want = texel.Quantize(s.f, c)
					}
					if got := Get(set, j%4, j/4); got != want {
						t.Errorf("after texel %d is set to %v in format %d, texel %d is %v, want %v", i, c, s.f, j, got, want)
					}
				}
			}
			full := Fill(m, c)
			for i := range 12 {
				if got, want := Get(full, i%4, i/4), texel.Quantize(s.f, c); got != want {
					t.Errorf("texel %d of an image that is filled with %v in format %d is %v, want %v", i, c, s.f, got, want)
				}
			}
		}
	}
}
