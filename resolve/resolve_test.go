package resolve_test

import (
	"bytes"
	"math"
	"math/big"
	"slices"
	"testing"

	"frustum/api"
	"frustum/image"
	"frustum/resolve"
	"frustum/texel"
)

const (
	one      = api.One
	most     = api.MaxValue
	largest  = math.MaxInt
	smallest = math.MinInt
)

// formats returns the texel formats.
func formats() []api.TexelFormat {
	return []api.TexelFormat{api.R8, api.RGBA8, api.RGB565, api.RGB10A2, api.R16F, api.RGBA16F}
}

// state makes arbitrary colors and images.
type state uint64

func (s *state) next(beyond int) int {
	*s = *s*6364136223846793005 + 1442695040888963407
	return int(*s>>33) % beyond
}

// number returns a component of a color, or a number of any magnitude.
func (s *state) number() int {
	switch s.next(4) {
	case 0:
		return []int{0, 1, -1, one / 2, one - 1, one, one + 1, -one, most, most + 1, -most, -most - 1, 1 << 32, largest, smallest}[s.next(15)]
	case 1:
		*s = *s*6364136223846793005 + 1442695040888963407
		return int(*s) >> (*s >> 17 % 64)
	}
	return s.next(one + 1)
}

// picture returns an image with arbitrary bytes, of which only few values occur, so that samples are often equal.
func (s *state) picture(f api.TexelFormat, width, height, values int) api.Image {
	m, _ := image.New(f, width, height)
	for i := range m.Data {
		m.Data[i] = byte(s.next(values) * 83)
	}
	return m
}

// pictures returns images that match.
func (s *state) pictures(count int) []api.Image {
	f, width, height := formats()[s.next(6)], 1+s.next(6), 1+s.next(6)
	list := make([]api.Image, count)
	for i := range list {
		list[i] = s.picture(f, width, height, []int{1, 2, 256}[s.next(3)])
		if i > 0 && s.next(3) > 0 {
			copy(list[i].Data, list[i-1].Data)
			list[i].Data[s.next(len(list[i].Data))] = byte(s.next(256))
		}
	}
	return list
}

// clones returns copies of images.
func clones(list []api.Image) []api.Image {
	var copies []api.Image
	for _, m := range list {
		copies = append(copies, image.Clone(m))
	}
	return copies
}

// expectedAverage returns the average of each component, in exact numbers.
func expectedAverage(colors []api.Vec4) api.Vec4 {
	if len(colors) == 0 || len(colors) > 64 {
		return api.Vec4{}
	}
	component := func(of func(c api.Vec4) int) int {
		sum := new(big.Int)
		for _, c := range colors {
			sum.Add(sum, big.NewInt(int64(min(max(of(c), -most), most))))
		}
		// |sum|/n rounded, halves up, is the integer part of (2*|sum| + n) / (2*n).
		twice := new(big.Int).Abs(sum)
		twice.Lsh(twice, 1).Add(twice, big.NewInt(int64(len(colors))))
		return sum.Sign() * int(twice.Quo(twice, big.NewInt(int64(2*len(colors)))).Int64())
	}
	return api.Vec4{X: component(func(c api.Vec4) int { return c.X }), Y: component(func(c api.Vec4) int { return c.Y }), Z: component(func(c api.Vec4) int { return c.Z }), W: component(func(c api.Vec4) int { return c.W })}
}

// expectedMatch reports whether images match, pair by pair.
func expectedMatch(list []api.Image) bool {
	for _, m := range list {
		for _, n := range list {
			if !image.Valid(m) || m.Format != n.Format || m.Width != n.Width || m.Height != n.Height {
				return false
			}
		}
	}
	return len(list) >= 1 && len(list) <= 8
}

// check compares Match, Images, Uniform and Spread with their second readings.
func check(t *testing.T, list []api.Image) {
	t.Helper()
	before := clones(list)
	match := expectedMatch(list)
	if got := resolve.Match(list); got != match {
		t.Fatalf("Match of %d images is %t", len(list), got)
	}
	got, code := resolve.Images(list)
	if !match {
		if code != api.ErrArgument || !image.Equal(got, api.Image{}) || resolve.Spread(list) != 0 || resolve.Uniform(list, 0, 0) {
			t.Fatalf("%d images that do not match become %v, error %d", len(list), got, code)
		}
		return
	}
	want, spread := image.Clone(list[0]), 0
	for y := -1; y <= want.Height; y++ {
		for x := -1; x <= want.Width; x++ {
			var colors []api.Vec4
			uniform := x >= 0 && x < want.Width && y >= 0 && y < want.Height
			for _, m := range list {
				colors = append(colors, image.Get(m, x, y))
				uniform = uniform && image.Get(m, x, y) == image.Get(list[0], x, y)
			}
			if u := resolve.Uniform(list, x, y); u != uniform {
				t.Fatalf("Uniform of %v at (%d, %d) is %t", list, x, y, u)
			}
			if x < 0 || x >= want.Width || y < 0 || y >= want.Height {
				continue
			}
			if !uniform {
				spread++
			}
			want = image.Set(want, x, y, expectedAverage(colors))
			if c := image.Get(got, x, y); uniform && c != colors[0] {
				t.Fatalf("the texel (%d, %d), which is %v in all samples, becomes %v", x, y, colors[0], c)
			}
		}
	}
	if code != api.OK || !image.Equal(got, want) {
		t.Fatalf("%v become %v, error %d, want %v", list, got, code, want)
	}
	if s := resolve.Spread(list); s != spread {
		t.Fatalf("the spread of %v is %d, want %d", list, s, spread)
	}
	// The result shares no memory with the samples.
	for i := range got.Data {
		got.Data[i] ^= 255
	}
	if !slices.EqualFunc(list, before, image.Equal) {
		t.Fatal("the images were changed")
	}
}

func TestP41_1Average(t *testing.T) {
	red, blue := api.Vec4{X: one}, api.Vec4{W: one}
	for _, c := range []struct {
		colors []api.Vec4
		want   api.Vec4
	}{
		{nil, api.Vec4{}}, {[]api.Vec4{}, api.Vec4{}}, {[]api.Vec4{red, blue}, api.Vec4{X: one / 2, W: one / 2}}, {[]api.Vec4{{X: 1, Y: 2, Z: 3, W: 4}}, api.Vec4{X: 1, Y: 2, Z: 3, W: 4}}, {[]api.Vec4{{X: 1, Y: -1, Z: 3, W: -3}, {}}, api.Vec4{X: 1, Y: -1, Z: 2, W: -2}}, {[]api.Vec4{{X: 1, Y: -1}, {}, {}}, api.Vec4{}}, {[]api.Vec4{{X: 2, Y: -2}, {}, {}}, api.Vec4{X: 1, Y: -1}}, {[]api.Vec4{{X: 1}, {}, {X: 1}, {}}, api.Vec4{X: 1}},
		// Components are saturated before they are added.
		{[]api.Vec4{{X: largest, Y: smallest, Z: most + 1, W: -most - 1}}, api.Vec4{X: most, Y: -most, Z: most, W: -most}}, {[]api.Vec4{{X: largest, Y: smallest}, {}}, api.Vec4{X: (most + 1) / 2, Y: -(most + 1) / 2}}, {[]api.Vec4{{X: largest}, {X: smallest}, {X: 9}}, api.Vec4{X: 3}},
		{slices.Repeat([]api.Vec4{{X: largest, Y: smallest, Z: 5}}, 64), api.Vec4{X: most, Y: -most, Z: 5}}, {slices.Repeat([]api.Vec4{red}, 63), red}, {slices.Repeat([]api.Vec4{red}, 65), api.Vec4{}}, {slices.Repeat([]api.Vec4{red, blue}, 32), api.Vec4{X: one / 2, W: one / 2}}, {slices.Repeat([]api.Vec4{red}, 5000), api.Vec4{}},
	} {
		before := slices.Clone(c.colors)
		if got := resolve.Average(c.colors); got != c.want || got != expectedAverage(c.colors) {
			t.Errorf("the average of %v is %v, want %v", c.colors, got, c.want)
		}
		if !slices.Equal(before, c.colors) {
			t.Error("Average changed its argument")
		}
	}
	s := state(1)
	for range 5000 {
		colors := make([]api.Vec4, s.next(68))
		for i := range colors {
			colors[i] = api.Vec4{X: s.number(), Y: s.number(), Z: s.number(), W: s.number()}
		}
		if got, want := resolve.Average(colors), expectedAverage(colors); got != want {
			t.Errorf("the average of %v is %v, want %v", colors, got, want)
		}
	}
}

func TestP41_2Match(t *testing.T) {
	s := state(2)
	good := s.picture(api.RGBA8, 3, 2, 256)
	other := func(change func(m *api.Image)) api.Image {
		m := image.Clone(good)
		change(&m)
		return m
	}
	for count := range 12 {
		list := slices.Repeat([]api.Image{good}, count)
		check(t, list)
		if got := resolve.Match(list); got != (count >= 1 && count <= 8) {
			t.Errorf("Match of %d images is %t", count, got)
		}
	}
	check(t, nil)
	for _, wrong := range []api.Image{
		{}, s.picture(api.RGBA8, 2, 3, 256), s.picture(api.RGBA8, 3, 3, 256), s.picture(api.RGBA8, 4, 2, 256), s.picture(api.RGB10A2, 3, 2, 256), s.picture(api.R8, 3, 2, 256), other(func(m *api.Image) { m.Format = 0 }), other(func(m *api.Image) { m.Data = m.Data[:23] }), other(func(m *api.Image) { m.Data = append(m.Data, 0) }), other(func(m *api.Image) { m.Data = nil }), other(func(m *api.Image) { m.Width = 65 }), other(func(m *api.Image) { m.Height = smallest }), other(func(m *api.Image) { m.Width, m.Height = 6, 1 }),
	} {
		for _, list := range [][]api.Image{{wrong, good}, {good, wrong}, {good, good, good, wrong}, {wrong, wrong, good}} {
			if resolve.Match(list) {
				t.Errorf("%v and %v match", wrong, good)
			}
			check(t, list)
		}
	}
	// Images that are not valid match nothing, not even themselves.
	for _, wrong := range []api.Image{{}, {Format: api.R8}, {Format: 7, Width: 1, Height: 1, Data: []byte{1}}, {Format: api.R8, Width: 2, Height: 1, Data: []byte{1}}, {Format: api.R8, Width: 65, Height: 1, Data: make([]byte, 65)}, {Format: api.R8, Width: largest, Height: largest}} {
		check(t, []api.Image{wrong})
		check(t, []api.Image{wrong, wrong})
	}
}

func TestP41_2Images(t *testing.T) {
	black, _ := image.New(api.RGBA8, 2, 1)
	white := image.Fill(black, api.Vec4{X: one, Y: one, Z: one, W: one})
	half := image.Set(black, 1, 0, api.Vec4{X: one, W: one})
	for _, c := range []struct {
		list []api.Image
		want []byte
	}{
		{[]api.Image{white}, []byte{255, 255, 255, 255, 255, 255, 255, 255}}, {[]api.Image{black, white}, []byte{128, 128, 128, 128, 128, 128, 128, 128}}, {[]api.Image{black, half}, []byte{0, 0, 0, 0, 128, 0, 0, 128}}, {[]api.Image{black, half, white, white}, []byte{128, 128, 128, 128, 191, 128, 128, 191}}, {[]api.Image{black, black, half}, []byte{0, 0, 0, 0, 85, 0, 0, 85}}, {[]api.Image{half, black, black, black, black, black, black, black}, []byte{0, 0, 0, 0, 32, 0, 0, 32}},
	} {
		got, code := resolve.Images(c.list)
		if code != api.OK || got.Format != api.RGBA8 || got.Width != 2 || got.Height != 1 || !bytes.Equal(got.Data, c.want) {
			t.Errorf("%d samples become %v, error %d, want %v", len(c.list), got, code, c.want)
		}
		check(t, c.list)
	}
	// Sizes at both ends of those that images have.
	s := state(3)
	for _, size := range [][2]int{{1, 1}, {64, 1}, {1, 64}, {17, 5}} {
		for _, f := range formats() {
			check(t, []api.Image{s.picture(f, size[0], size[1], 256), s.picture(f, size[0], size[1], 256)})
		}
	}
	large := []api.Image{s.picture(api.RGBA16F, 64, 64, 256), s.picture(api.RGBA16F, 64, 64, 256)}
	got, code := resolve.Images(large)
	if code != api.OK || !image.Valid(got) || got.Width != 64 || got.Height != 64 {
		t.Errorf("the largest images become one of %dx%d pixels, error %d", got.Width, got.Height, code)
	}
}

func TestP41_3Uniform(t *testing.T) {
	black, _ := image.New(api.RGBA8, 3, 2)
	list := []api.Image{black, image.Set(black, 2, 1, api.Vec4{Y: one}), black}
	for _, c := range []struct {
		x, y int
		want bool
	}{
		{0, 0, true}, {2, 0, true}, {1, 1, true}, {2, 1, false}, {3, 1, false}, {2, 2, false}, {-1, 0, false}, {0, -1, false}, {largest, 0, false}, {0, smallest, false}, {1 << 32, 0, false},
	} {
		if got := resolve.Uniform(list, c.x, c.y); got != c.want {
			t.Errorf("Uniform at (%d, %d) is %t", c.x, c.y, got)
		}
	}
	if got := resolve.Spread(list); got != 1 {
		t.Errorf("the spread is %d", got)
	}
	check(t, list)
	// Colors count, not bytes: 0 and the negative zero, and half numbers that are not finite, are alike.
	halves := []api.Image{{Format: api.R16F, Width: 3, Height: 1, Data: []byte{0, 0, 0, 0x7c, 1, 0}}, {Format: api.R16F, Width: 3, Height: 1, Data: []byte{0, 0x80, 0, 0x70, 0, 0}}}
	if got := resolve.Spread(halves); got != 0 {
		t.Errorf("the spread of equal colors is %d", got)
	}
	check(t, halves)
}

// TestP41_4Arbitrary compares all functions with their second readings, for arbitrary images.
func TestP41_4Arbitrary(t *testing.T) {
	s := state(4)
	uniform, spread := 0, 0
	for range 3000 {
		list := s.pictures(s.next(10))
		if s.next(20) == 0 {
			list = append(list, s.pictures(1)...)
		}
		check(t, list)
		if resolve.Match(list) {
			spread += resolve.Spread(list)
			uniform += list[0].Width*list[0].Height - resolve.Spread(list)
		}
	}
	if uniform < 3000 || spread < 3000 {
		t.Errorf("%d pixels are uniform, and %d are not", uniform, spread)
	}
}

// TestP41_4Single resolves images with all values of a byte, and with all half numbers, alone and with themselves.
func TestP41_4Single(t *testing.T) {
	for _, f := range formats() {
		size := texel.Size(f)
		for part := range 16 {
			m, _ := image.New(f, 64, 64)
			for i := range 64 * 64 {
				n := 4096*part + i
				for k := range size {
					m.Data[i*size+k] = byte(n >> (8 * (k % 2)))
				}
			}
			for _, list := range [][]api.Image{{m}, {m, m, m}} {
				got, code := resolve.Images(list)
				if code != api.OK {
					t.Fatalf("a single image has error %d", code)
				}
				for y := range 64 {
					for x := range 64 {
						if a, b := image.Get(got, x, y), image.Get(m, x, y); a != b {
							t.Fatalf("the texel %v becomes %v in format %d", b, a, f)
						}
					}
				}
			}
		}
	}
}
