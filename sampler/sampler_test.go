package sampler

import (
	"bytes"
	"math"
	"math/big"
	"slices"
	"testing"

	"frustum/address"
	"frustum/api"
	"frustum/mipmap"
	"frustum/texel"
	"frustum/vec"
)

const (
	one      = api.One
	largest  = math.MaxInt
	smallest = math.MinInt
	// spare is the number of bytes behind the data of the levels of the tests.
	spare = 16
)

func vector(x, y, z, w int) api.Vec4 {
	return api.Vec4{X: x, Y: y, Z: z, W: w}
}

func modes() []api.AddressMode {
	return []api.AddressMode{api.Repeat, api.Mirror, api.ClampToEdge, api.ClampBorder}
}

func filters() []api.Filter {
	return []api.Filter{api.Nearest, api.Linear}
}

// noFilters returns numbers that are no filters, some of which look like one if bits are dropped.
func noFilters() []api.Filter {
	return []api.Filter{0, 3, 4, -1, -2, 256 + 1, 256 + 2, 1<<32 + 1, 1<<62 + 2, 1 - 1<<32, largest, smallest, smallest + 1, smallest + 2}
}

// usual returns a valid sampler whose fields differ where they may.
func usual() api.Sampler {
	return api.Sampler{AddressU: api.Repeat, AddressV: api.Mirror, Magnify: api.Nearest, Minify: api.Linear, Mipmap: api.Linear, Border: vector(one, one/2, 3, one/4), LODBias: one / 4, MinLOD: 0, MaxLOD: 8 * one}
}

// pairs returns samplers with each pair of addressing modes.
func pairs() []api.Sampler {
	var result []api.Sampler
	for _, u := range modes() {
		for _, v := range modes() {
			s := usual()
			s.AddressU, s.AddressV = u, v
			result = append(result, s)
		}
	}
	return result
}

// ranged is a number of a sampler with the ends of its range.
type ranged struct {
	name      string
	number    func(s *api.Sampler) *int
	low, high int
}

// numbers returns the numbers of a sampler, with the ranges that they have in a sampler with MinLOD 2*One and MaxLOD 5*One.
func numbers() []ranged {
	return []ranged{
		{"Border.X", func(s *api.Sampler) *int { return &s.Border.X }, 0, one}, {"Border.Y", func(s *api.Sampler) *int { return &s.Border.Y }, 0, one},
		{"Border.Z", func(s *api.Sampler) *int { return &s.Border.Z }, 0, one}, {"Border.W", func(s *api.Sampler) *int { return &s.Border.W }, 0, one},
		{"LODBias", func(s *api.Sampler) *int { return &s.LODBias }, -8 * one, 8 * one},
		{"MinLOD", func(s *api.Sampler) *int { return &s.MinLOD }, 0, 5 * one}, {"MaxLOD", func(s *api.Sampler) *int { return &s.MaxLOD }, 2 * one, 8 * one},
	}
}

// limited returns the sampler to which the ranges of numbers apply.
func limited() api.Sampler {
	s := usual()
	s.MinLOD, s.MaxLOD = 2*one, 5*one
	return s
}

// brokenSamplers returns samplers of which one field alone is wrong, and some of which the limits are wrong together.
func brokenSamplers() []api.Sampler {
	result := []api.Sampler{{}}
	add := func(change func(s *api.Sampler)) {
		s := limited()
		change(&s)
		result = append(result, s)
	}
	for _, m := range []api.AddressMode{0, 5, -1, -4, 256 + 1, 1<<32 + 2, 1<<62 + 3, largest, smallest, smallest + 4} {
		add(func(s *api.Sampler) { s.AddressU = m })
		add(func(s *api.Sampler) { s.AddressV = m })
	}
	for _, f := range noFilters() {
		add(func(s *api.Sampler) { s.Magnify = f })
		add(func(s *api.Sampler) { s.Minify = f })
		add(func(s *api.Sampler) { s.Mipmap = f })
	}
	for _, r := range numbers() {
		for _, x := range []int{r.low - 1, r.high + 1, r.low - one, r.high + one, smallest, smallest + 1, largest, largest - 1, 1<<32 + r.low, r.high - 1<<32, 1<<62 + r.low, -1 << 62} {
			add(func(s *api.Sampler) { *r.number(s) = x })
		}
	}
	add(func(s *api.Sampler) { s.MinLOD, s.MaxLOD = one, one-1 })
	add(func(s *api.Sampler) { s.MinLOD, s.MaxLOD = -1, -1 })
	add(func(s *api.Sampler) { s.MinLOD, s.MaxLOD = 8*one+1, 8*one+1 })
	add(func(s *api.Sampler) { s.MinLOD, s.MaxLOD = largest, smallest })
	return result
}

func TestP13_1Valid(t *testing.T) {
	check := func(s api.Sampler) {
		t.Helper()
		if !Valid(s) {
			t.Errorf("%+v is not valid", s)
		}
	}
	check(usual())
	check(limited())
	for _, s := range pairs() {
		check(s)
	}
	for n := range 8 {
		s := usual()
		s.Magnify, s.Minify, s.Mipmap = filters()[n%2], filters()[n/2%2], filters()[n/4]
		check(s)
	}
	for _, r := range numbers() {
		for _, x := range []int{r.low, r.low + 1, (r.low + r.high) / 2, r.high - 1, r.high} {
			s := limited()
			*r.number(&s) = x
			check(s)
		}
	}
	for _, lod := range []int{0, 1, one, 8 * one} {
		s := usual()
		s.MinLOD, s.MaxLOD = lod, lod
		check(s)
	}
	check(api.Sampler{AddressU: 1, AddressV: 4, Magnify: 1, Minify: 2, Mipmap: 1})
}

func TestP13_1Broken(t *testing.T) {
	for _, s := range brokenSamplers() {
		if Valid(s) {
			t.Errorf("%+v is valid", s)
		}
	}
}

// made returns an image with arbitrary bytes, and with others behind its data.
func made(f api.TexelFormat, width, height int, seed uint64) api.Image {
	state := seed*2654435761 + 12345
	length := width * height * texel.Size(f)
	room := make([]byte, length+spare)
	for i := range room {
		state = state*6364136223846793005 + 1442695040888963407
		room[i] = byte(state >> 40)
	}
	return api.Image{Format: f, Width: width, Height: height, Data: room[:length]}
}

// texture returns a texture with all levels of this size; they are unlike one another, so that a wrong level is seen.
func texture(f api.TexelFormat, width, height int) api.Texture {
	var result api.Texture
	for level := range mipmap.Levels(width, height) {
		w, h := mipmap.LevelSize(width, height, level)
		result.Levels = append(result.Levels, made(f, w, h, uint64(100*width+height+level)))
	}
	return result
}

// cut returns a texture with the first levels only.
func cut(t api.Texture, levels int) api.Texture {
	return api.Texture{Levels: t.Levels[:levels]}
}

// brokenTextures returns textures that are not valid, but look as if a level could be sampled.
func brokenTextures() []api.Texture {
	good := texture(api.RGBA8, 4, 4)
	result := []api.Texture{{}, {Levels: []api.Image{}}, {Levels: make([]api.Image, 3)}, {Levels: append(slices.Clone(good.Levels), made(api.RGBA8, 1, 1, 1))}, {Levels: []api.Image{made(api.RGBA8, 65, 1, 1)}}}
	for i, m := range good.Levels {
		format, width, data := m, m, m
		format.Format = api.RGB10A2
		width.Width++
		data.Data = m.Data[:len(m.Data)-1]
		for _, changed := range []api.Image{format, width, data, {}, made(api.R8, m.Width, m.Height, 1), made(api.RGBA8, m.Width+4, m.Height, 1)} {
			levels := slices.Clone(good.Levels)
			levels[i] = changed
			result = append(result, api.Texture{Levels: levels})
		}
	}
	return result
}

// watch returns a function that checks that a texture and all that it refers to, also behind the lengths of slices, are as they were.
func watch(t *testing.T, texture api.Texture) func() {
	before := slices.Clone(texture.Levels[:cap(texture.Levels)])
	var data [][]byte
	for _, m := range before {
		data = append(data, bytes.Clone(m.Data[:cap(m.Data)]))
	}
	return func() {
		t.Helper()
		for i, m := range texture.Levels[:cap(texture.Levels)] {
			was := before[i]
			if m.Format != was.Format || m.Width != was.Width || m.Height != was.Height || len(m.Data) != len(was.Data) || !bytes.Equal(m.Data[:cap(m.Data)], data[i]) {
				t.Errorf("the texture was changed")
			}
		}
	}
}

// texelOf returns the color of a texel by the rules of the addressing modes.
func texelOf(texture api.Texture, s api.Sampler, x, y, level int) api.Vec4 {
	m := texture.Levels[level]
	column, row := address.Index(s.AddressU, x, m.Width), address.Index(s.AddressV, y, m.Height)
	if column == -1 || row == -1 {
		return s.Border
	}
	size := texel.Size(m.Format)
	return texel.Decode(m.Format, m.Data[(row*m.Width+column)*size:][:size])
}

// far returns texel indices beyond the sides of all levels.
func far() []int {
	return []int{smallest, smallest + 1, largest, largest - 1, 1 << 32, -1 << 32, 1 << 62, -1 << 62, 1000, -1000}
}

func TestP13_1Texel(t *testing.T) {
	for _, f := range []api.TexelFormat{api.RGBA8, api.R8, api.RGBA16F} {
		for _, size := range [][2]int{{1, 1}, {4, 4}, {3, 5}, {6, 2}, {1, 7}} {
			texture := texture(f, size[0], size[1])
			unchanged := watch(t, texture)
			var columns, rows []int
			for i := -2 * size[0]; i <= 3*size[0]; i++ {
				columns = append(columns, i)
			}
			for i := -2 * size[1]; i <= 3*size[1]; i++ {
				rows = append(rows, i)
			}
			for _, s := range pairs() {
				for level := range texture.Levels {
					for _, x := range append(columns, far()...) {
						for _, y := range append(rows, far()...) {
							if got, want := Texel(texture, s, x, y, level), texelOf(texture, s, x, y, level); got != want {
								t.Errorf("texel (%d, %d) of level %d of size %v with %+v is %v, want %v", x, y, level, size, s, got, want)
							}
						}
					}
				}
			}
			unchanged()
		}
	}
}

// TestP13_1TexelExamples has texels that are written out, so that an exchanged mode or side is seen.
func TestP13_1TexelExamples(t *testing.T) {
	texture := api.Texture{Levels: []api.Image{{Format: api.R8, Width: 3, Height: 2, Data: []byte{0, 51, 102, 153, 204, 255}}, {Format: api.R8, Width: 1, Height: 1, Data: []byte{17}}}}
	colors := map[int]int{0: 0, 1: 13107, 2: 26214, 3: 39322, 4: 52429, 5: 65536, 6: 4369}
	const border = -1
	for _, c := range []struct {
		u, v              api.AddressMode
		x, y, level, want int
	}{
		{api.Repeat, api.Repeat, 0, 0, 0, 0}, {api.Repeat, api.Repeat, 2, 1, 0, 5}, {api.Repeat, api.Repeat, 3, 0, 0, 0}, {api.Repeat, api.Repeat, -1, 2, 0, 2}, {api.Repeat, api.Repeat, 1, -1, 0, 4},
		{api.Mirror, api.Repeat, 3, 0, 0, 2}, {api.Repeat, api.Mirror, 3, 0, 0, 0}, {api.Repeat, api.Mirror, 0, 2, 0, 3}, {api.Mirror, api.Repeat, 0, 2, 0, 0},
		{api.ClampToEdge, api.Repeat, 4, 2, 0, 2}, {api.Repeat, api.ClampToEdge, 4, 2, 0, 4}, {api.ClampToEdge, api.ClampToEdge, -7, 9, 0, 3}, {api.ClampToEdge, api.ClampToEdge, 9, -7, 0, 2},
		{api.ClampBorder, api.Repeat, 3, 0, 0, border}, {api.Repeat, api.ClampBorder, 3, 0, 0, 0}, {api.Repeat, api.ClampBorder, 0, 2, 0, border}, {api.ClampBorder, api.Repeat, 0, 2, 0, 0}, {api.ClampBorder, api.ClampBorder, -1, 0, 0, border}, {api.ClampBorder, api.ClampBorder, 2, 1, 0, 5},
		{api.Repeat, api.Repeat, 5, 7, 1, 6}, {api.ClampBorder, api.ClampBorder, 0, 0, 1, 6}, {api.ClampBorder, api.ClampBorder, 1, 0, 1, border}, {api.ClampBorder, api.ClampBorder, 0, 1, 1, border},
	} {
		s := usual()
		s.AddressU, s.AddressV = c.u, c.v
		want := s.Border
		if c.want != border {
			want = vector(colors[c.want], 0, 0, one)
		}
		if got := Texel(texture, s, c.x, c.y, c.level); got != want {
			t.Errorf("texel (%d, %d) of level %d with the modes %d and %d is %v, want %v", c.x, c.y, c.level, c.u, c.v, got, want)
		}
	}
}

// noLevels returns numbers of levels that a texture with so many levels does not have.
func noLevels(levels int) []int {
	return []int{-1, levels, levels + 1, 7, 64, smallest, largest, 1 << 32, -1 << 32, 1 << 62}
}

// checkNothing checks that no function samples a level of a texture with a sampler.
func checkNothing(t *testing.T, texture api.Texture, s api.Sampler, level int, why string) {
	t.Helper()
	for _, at := range [][2]int{{0, 0}, {1, 0}, {0, 1}, {-1, 5}, {one / 2, one / 2}, {one, one}, {largest, smallest}} {
		if got := Texel(texture, s, at[0], at[1], level); got != (api.Vec4{}) {
			t.Errorf("texel %v of level %d (%s) is %v", at, level, why, got)
		}
		for _, f := range filters() {
			if got := SampleLevel(texture, s, at[0], at[1], level, f); got != (api.Vec4{}) {
				t.Errorf("a sample of level %d at %v (%s) is %v", level, at, why, got)
			}
		}
	}
}

func TestP13_1Nothing(t *testing.T) {
	good := texture(api.RGBA8, 4, 4)
	s := usual()
	s.AddressU, s.AddressV = api.ClampBorder, api.ClampBorder
	for length := 1; length <= 3; length++ {
		for _, level := range noLevels(length) {
			checkNothing(t, cut(good, length), s, level, "a level that does not exist")
			checkNothing(t, cut(good, length), usual(), level, "a level that does not exist")
		}
		if Texel(cut(good, length), s, 0, 0, length-1) == (api.Vec4{}) {
			t.Errorf("the last of %d levels is not sampled", length)
		}
	}
	for _, broken := range brokenTextures() {
		unchanged := watch(t, broken)
		for _, level := range []int{-1, 0, 1, 2, 3, 4} {
			checkNothing(t, broken, s, level, "a texture that is not valid")
			checkNothing(t, broken, usual(), level, "a texture that is not valid")
		}
		unchanged()
	}
	for _, broken := range brokenSamplers() {
		for _, level := range []int{-1, 0, 1, 2, 3} {
			checkNothing(t, good, broken, level, "a sampler that is not valid")
		}
	}
}

// split returns the largest integer that is not greater than n/One, and One times what is left of n/One.
func split(n *big.Int) (int, int) {
	whole, rest := new(big.Int).DivMod(n, big.NewInt(one), new(big.Int))
	return int(whole.Int64()), int(rest.Int64())
}

// scaled returns a saturated coordinate times a side, less an offset, in exact integers.
func scaled(u, side, offset int) *big.Int {
	u = max(-api.MaxValue, min(u, api.MaxValue))
	product := new(big.Int).Mul(big.NewInt(int64(u)), big.NewInt(int64(side)))
	return product.Sub(product, big.NewInt(int64(offset)))
}

// expectedLevel returns what SampleLevel must return for a level that exists, by the definition.
func expectedLevel(t api.Texture, s api.Sampler, u, v, level int, f api.Filter) api.Vec4 {
	m := t.Levels[level]
	switch f {
	case api.Nearest:
		x, _ := split(scaled(u, m.Width, 0))
		y, _ := split(scaled(v, m.Height, 0))
		return texelOf(t, s, x, y, level)
	case api.Linear:
		x, fx := split(scaled(u, m.Width, one/2))
		y, fy := split(scaled(v, m.Height, one/2))
		upper := vec.Lerp(texelOf(t, s, x, y, level), texelOf(t, s, x+1, y, level), fx)
		lower := vec.Lerp(texelOf(t, s, x, y+1, level), texelOf(t, s, x+1, y+1, level), fx)
		return vec.Lerp(upper, lower, fy)
	}
	return api.Vec4{}
}

// ends returns coordinates at and next to the ends of their ranges.
func ends() []int {
	result := []int{smallest, smallest + 1, largest, largest - 1, 1 << 32, -1 << 32, 1 << 62, -1 << 62, -api.MaxValue - 1, api.MaxValue + 1}
	for _, near := range []int{-api.MaxValue, -2 * one, -one, -one / 2, 0, one / 4, one / 2, one, 3 * one / 2, 2 * one, 100 * one, api.MaxValue} {
		result = append(result, near-1, near, near+1)
	}
	return result
}

// coordinates returns the ends, and the coordinates at and next to the limits between the texels of a side and at their centers.
func coordinates(side int) []int {
	result := ends()
	for half := -3; half <= 2*side+3; half++ {
		at := half * one / (2 * side)
		result = append(result, at-2, at-1, at, at+1, at+2)
	}
	return result
}

func checkLevel(t *testing.T, texture api.Texture, s api.Sampler, u, v, level int) {
	t.Helper()
	for _, f := range filters() {
		if got, want := SampleLevel(texture, s, u, v, level, f), expectedLevel(texture, s, u, v, level, f); got != want {
			t.Errorf("level %d with filter %d at (%d, %d) with %+v is %v, want %v", level, f, u, v, s, got, want)
		}
	}
}

func TestP13_2Small(t *testing.T) {
	for i, size := range [][2]int{{1, 1}, {2, 2}, {3, 2}, {2, 3}} {
		texture := texture([]api.TexelFormat{api.RGBA8, api.RGBA16F}[i%2], size[0], size[1])
		unchanged := watch(t, texture)
		for _, s := range pairs() {
			for _, u := range coordinates(size[0]) {
				for _, v := range coordinates(size[1]) {
					checkLevel(t, texture, s, u, v, 0)
				}
			}
		}
		unchanged()
	}
}

func TestP13_2Large(t *testing.T) {
	for _, size := range [][2]int{{64, 64}, {63, 7}, {5, 48}, {8, 1}, {1, 8}, {7, 1}} {
		texture := texture(api.RGB10A2, size[0], size[1])
		unchanged := watch(t, texture)
		for _, s := range pairs() {
			for level := range texture.Levels {
				w, h := mipmap.LevelSize(size[0], size[1], level)
				for i, u := range coordinates(w) {
					for _, v := range []int{0, one / 3, coordinates(h)[i%len(coordinates(h))]} {
						checkLevel(t, texture, s, u, v, level)
					}
				}
				for i, v := range coordinates(h) {
					for _, u := range []int{0, one / 3, coordinates(w)[i%len(coordinates(w))]} {
						checkLevel(t, texture, s, u, v, level)
					}
				}
			}
		}
		unchanged()
	}
}

// TestP13_2Examples has colors that are written out.
func TestP13_2Examples(t *testing.T) {
	// The four texels are 0, One/5, 2*One/5 and One.
	square := api.Texture{Levels: []api.Image{{Format: api.R8, Width: 2, Height: 2, Data: []byte{0, 51, 102, 255}}}}
	for _, c := range []struct {
		mode          api.AddressMode
		u, v          int
		nearest, both int
	}{
		{api.ClampToEdge, 0, 0, 0, 0}, {api.ClampToEdge, one / 4, one / 4, 0, 0}, {api.ClampToEdge, one/2 - 1, 0, 0, 6553}, {api.ClampToEdge, one / 2, 0, 13107, 6554}, {api.ClampToEdge, 3 * one / 4, 0, 13107, 13107}, {api.ClampToEdge, one, one, 65536, 65536},
		{api.ClampToEdge, 0, one / 2, 26214, 13107}, {api.ClampToEdge, one / 2, one / 2, 65536, 26215}, {api.ClampToEdge, one / 4, 3 * one / 4, 26214, 26214}, {api.ClampToEdge, one / 2, one, 65536, 45875},
		{api.ClampToEdge, -1, largest, 26214, 26214}, {api.ClampToEdge, smallest, -1, 0, 0}, {api.ClampToEdge, largest, -one, 13107, 13107},
		{api.Repeat, 0, one / 4, 0, 6553}, {api.Repeat, one, one / 4, 0, 6553}, {api.Repeat, -1, one / 4, 13107, 6554}, {api.Repeat, -one / 4, one / 4, 13107, 13107}, {api.Repeat, 0, 0, 0, 26214}, {api.Repeat, 7*one + one/4, -5*one + 3*one/4, 26214, 26214},
		{api.Mirror, 0, one / 4, 0, 0}, {api.Mirror, 5 * one / 4, one / 4, 13107, 13107}, {api.Mirror, -one / 2, one / 4, 0, 6553},
		{api.ClampBorder, 0, one / 4, 0, 32768}, {api.ClampBorder, -1, one / 4, 65536, 32770}, {api.ClampBorder, one, one / 4, 65536, 39322}, {api.ClampBorder, one - 1, one / 4, 13107, 39320}, {api.ClampBorder, -one / 4, one / 4, 65536, 65536}, {api.ClampBorder, 0, 0, 0, 49152}, {api.ClampBorder, largest, smallest, 65536, 65536},
	} {
		s := usual()
		s.AddressU, s.AddressV, s.Border = c.mode, c.mode, vector(one, 0, 0, one)
		if got := SampleLevel(square, s, c.u, c.v, 0, api.Nearest); got != vector(c.nearest, 0, 0, one) {
			t.Errorf("the nearest texel to (%d, %d) in mode %d is %v, want %d", c.u, c.v, c.mode, got, c.nearest)
		}
		if got := SampleLevel(square, s, c.u, c.v, 0, api.Linear); got != vector(c.both, 0, 0, one) {
			t.Errorf("the texels around (%d, %d) in mode %d give %v, want %d", c.u, c.v, c.mode, got, c.both)
		}
	}
}

func TestP13_2NoFilter(t *testing.T) {
	texture, s := texture(api.RGBA8, 4, 4), usual()
	s.AddressU, s.AddressV = api.ClampBorder, api.ClampBorder
	for _, f := range noFilters() {
		for _, u := range ends() {
			if got := SampleLevel(texture, s, u, u, 1, f); got != (api.Vec4{}) {
				t.Errorf("a sample with the filter %d at %d is %v", f, u, got)
			}
		}
	}
}

// isTexel reports whether a color is one of the texels of a level or the border.
func isTexel(texture api.Texture, s api.Sampler, level int, c api.Vec4) bool {
	m := texture.Levels[level]
	for y := range m.Height {
		for x := range m.Width {
			if texelOf(texture, s, x, y, level) == c {
				return true
			}
		}
	}
	return c == s.Border
}

func TestP13_5Nearest(t *testing.T) {
	for _, size := range [][2]int{{4, 4}, {5, 3}} {
		texture := texture(api.RGBA16F, size[0], size[1])
		for _, s := range pairs() {
			s.Magnify, s.Minify, s.Mipmap = api.Nearest, api.Nearest, api.Nearest
			for level := range texture.Levels {
				for i, u := range coordinates(4) {
					v := coordinates(4)[(7*i+level)%len(coordinates(4))]
					if got := SampleLevel(texture, s, u, v, level, api.Nearest); !isTexel(texture, s, level, got) {
						t.Errorf("the nearest texel to (%d, %d) in level %d is %v, which is none", u, v, level, got)
					}
					if got := Sample(texture, s, u, v, level*one-s.LODBias); !isTexel(texture, s, level, got) {
						t.Errorf("the nearest texel to (%d, %d) for level %d is %v, which is none", u, v, level, got)
					}
				}
			}
		}
	}
}

// TestP13_5Constant samples textures of one color with all filters and all modes that have no border.
func TestP13_5Constant(t *testing.T) {
	for _, f := range []api.TexelFormat{api.R8, api.RGBA8, api.RGB565, api.RGB10A2, api.R16F, api.RGBA16F} {
		for n, c := range []api.Vec4{{}, vector(one, one, one, one), vector(one/3, one/5, 1000, one/7), vector(-3*one, one+1, 12345*one, -api.MaxValue)} {
			color := texel.Quantize(f, c)
			constant := api.Image{Format: f, Width: 5, Height: 4, Data: bytes.Repeat(texel.Encode(f, c), 20)}
			texture, code := mipmap.Chain(constant)
			if code != api.OK {
				t.Fatalf("there is no texture of the color %v: %d", c, code)
			}
			for _, s := range pairs() {
				if s.AddressU == api.ClampBorder || s.AddressV == api.ClampBorder {
					continue
				}
				for i, u := range coordinates(5) {
					v := coordinates(4)[(5*i+n)%len(coordinates(4))]
					for _, filter := range filters() {
						s.Magnify, s.Minify, s.Mipmap = filter, filters()[i%2], filters()[i/2%2]
						lod := []int{0, one / 2, 77777, 100 * one, -one, one}[i%6]
						if got, level := Sample(texture, s, u, v, lod), SampleLevel(texture, s, u, v, i%3, filter); got != color || level != color {
							t.Errorf("samples of a texture of the color %v at (%d, %d) are %v and %v", color, u, v, got, level)
						}
					}
				}
			}
		}
	}
}
