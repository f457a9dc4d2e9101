package mipmap

import (
	"bytes"
	"math/big"
	"slices"
	"testing"

	"frustum/api"
	"frustum/image"
	"frustum/texel"
)

// copied returns a texture in new memory, with a spare level behind its last one and spare bytes behind the data of each.
func copied(texture api.Texture) api.Texture {
	var result api.Texture
	for _, m := range texture.Levels {
		m.Data = append(bytes.Clone(m.Data), make([]byte, spare)...)[:len(m.Data)]
		result.Levels = append(result.Levels, m)
	}
	return api.Texture{Levels: append(result.Levels, made(api.R8, 1, 1, 3))[:len(result.Levels)]}
}

// expectedChain returns the texture that Chain must return for a valid image.
func expectedChain(m api.Image) api.Texture {
	result := single(m)
	for range len(levelSizes(m.Width, m.Height)) - 1 {
		m = expectedReduce(m)
		result.Levels = append(result.Levels, m)
	}
	return result
}

// isSameTexture compares textures level by level.
func isSameTexture(a, b api.Texture) bool {
	if len(a.Levels) != len(b.Levels) {
		return false
	}
	for i := range a.Levels {
		if !isSame(a.Levels[i], b.Levels[i]) {
			return false
		}
	}
	return true
}

// checkChain checks the result of Chain for a valid image, and that no two levels share memory, nor a level and the image.
func checkChain(t *testing.T, m api.Image) {
	t.Helper()
	unchanged := watch(t, single(m))
	want := expectedChain(m)
	got, code := Chain(m)
	if code != api.OK || !isSameTexture(got, want) {
		t.Fatalf("Chain of %v is %v with %d, want %v", m, got, code, want)
	}
	if !Valid(got) {
		t.Errorf("Chain of %v is not valid", m)
	}
	want = copied(want)
	for i, level := range got.Levels {
		spoil(level)
		for j := i + 1; j < len(got.Levels); j++ {
			if !isSame(got.Levels[j], want.Levels[j]) {
				t.Fatalf("the levels %d and %d share memory", i, j)
			}
		}
	}
	unchanged("Chain")
}

func TestP12_3Chain(t *testing.T) {
	for _, f := range formats() {
		for i, size := range sides() {
			checkChain(t, made(f, size[0], size[1], uint64(i)))
			checkChain(t, near(f, size[0], size[1], uint64(i)))
		}
	}
}

func TestP12_3ChainExample(t *testing.T) {
	m := api.Image{Format: api.R8, Width: 5, Height: 2, Data: []byte{0, 4, 16, 20, 255, 8, 12, 24, 28, 255}}
	want := api.Texture{Levels: []api.Image{m, {Format: api.R8, Width: 2, Height: 1, Data: []byte{6, 22}}, {Format: api.R8, Width: 1, Height: 1, Data: []byte{14}}}}
	if got, code := Chain(m); code != api.OK || !isSameTexture(got, want) {
		t.Errorf("Chain is %v with %d, want %v", got, code, want)
	}
}

func TestP12_3ChainBroken(t *testing.T) {
	for _, b := range broken() {
		unchanged := watch(t, single(b.m))
		if got, code := Chain(b.m); code != api.ErrArgument || len(got.Levels) != 0 {
			t.Errorf("Chain of an image that is not valid (%s) is %v with %d", b.why, got, code)
		}
		unchanged("Chain")
	}
}

// isRight reports whether a texture is valid, by the sizes of level 0 halved one by one.
func isRight(texture api.Texture) bool {
	if len(texture.Levels) == 0 {
		return false
	}
	first := texture.Levels[0]
	levels := levelSizes(first.Width, first.Height)
	if len(texture.Levels) > len(levels) {
		return false
	}
	for i, m := range texture.Levels {
		if m.Format != first.Format || m.Width != levels[i][0] || m.Height != levels[i][1] || texel.Size(m.Format) == 0 || len(m.Data) != m.Width*m.Height*texel.Size(m.Format) {
			return false
		}
	}
	return true
}

func checkValid(t *testing.T, texture api.Texture, want bool, why string) {
	t.Helper()
	texture = copied(texture)
	unchanged := watch(t, texture)
	if got := Valid(texture); got != want {
		t.Errorf("whether %v is valid (%s): %t", texture, why, got)
	}
	unchanged("Valid")
}

// with returns a texture with a level replaced.
func with(texture api.Texture, i int, m api.Image) api.Texture {
	texture = copied(texture)
	texture.Levels[i] = m
	return texture
}

func TestP12_3Valid(t *testing.T) {
	for _, f := range formats() {
		full := api.Texture{Levels: []api.Image{made(f, 5, 3, 1), made(f, 2, 1, 2), made(f, 1, 1, 3)}}
		checkValid(t, api.Texture{}, false, "nil")
		checkValid(t, api.Texture{Levels: []api.Image{}}, false, "no level")
		for length := 1; length <= 3; length++ {
			checkValid(t, api.Texture{Levels: full.Levels[:length]}, true, "some levels")
			checkValid(t, api.Texture{Levels: full.Levels[3-length:]}, true, "the last levels, which are those of a smaller image")
		}
		checkValid(t, api.Texture{Levels: append(copied(full).Levels, made(f, 1, 1, 4))}, false, "too many levels")
		checkValid(t, api.Texture{Levels: []api.Image{made(f, 1, 1, 4), made(f, 1, 1, 5)}}, false, "too many levels")
		checkValid(t, api.Texture{Levels: []api.Image{full.Levels[0], full.Levels[2]}}, false, "a missing level")
		checkValid(t, api.Texture{Levels: []api.Image{full.Levels[2], full.Levels[1], full.Levels[0]}}, false, "the wrong order")
		checkValid(t, api.Texture{Levels: []api.Image{full.Levels[0], full.Levels[0]}}, false, "a level that was not reduced")
		checkValid(t, with(full, 1, made(f, 3, 2, 4)), false, "sides that are rounded up")
		checkValid(t, with(full, 1, made(f, 1, 2, 4)), false, "sides that are exchanged")
		checkValid(t, with(full, 0, made(f, 4, 2, 4)), true, "a level 0 with the same next level")
		checkValid(t, with(full, 0, made(f, 6, 3, 4)), false, "a level 0 with another next level")
		checkValid(t, with(full, 0, made(f, 3, 5, 4)), false, "a level 0 with exchanged sides")
	}
}

// TestP12_3ValidPlaces changes one field of one level in each place.
func TestP12_3ValidPlaces(t *testing.T) {
	for _, f := range formats() {
		for _, size := range [][2]int{{5, 3}, {8, 8}, {1, 4}, {64, 64}} {
			full := expectedChain(made(f, size[0], size[1], 1))
			checkValid(t, full, true, "a chain")
			for i, m := range full.Levels {
				check := func(changed api.Image, why string) {
					t.Helper()
					texture := with(full, i, changed)
					checkValid(t, texture, isRight(texture), why)
				}
				for _, other := range append(formats(), 0, 7, -1, f+1<<32, largest, smallest) {
					changed := m
					changed.Format = other
					check(changed, "format")
					if texel.Size(other) != 0 {
						check(made(other, m.Width, m.Height, 2), "format with its bytes")
					}
				}
				for _, more := range []int{-1, 1, m.Width, 64, -2 * m.Width, smallest, largest, 1 << 32} {
					wide, high := m, m
					wide.Width += more
					high.Height += more
					check(wide, "width")
					check(high, "height")
				}
				for _, change := range [][2]int{{-1, 0}, {1, 0}, {0, -1}, {0, 1}, {1, 1}, {-1, -1}, {m.Width, m.Height}} {
					check(made(f, max(1, m.Width+change[0]), max(1, m.Height+change[1]), 2), "size with its bytes")
				}
				for _, length := range []int{0, len(m.Data) - 1, len(m.Data) + 1, 2 * len(m.Data)} {
					changed := m
					changed.Data = make([]byte, length)
					check(changed, "length")
				}
				for _, b := range broken() {
					check(b.m, b.why)
				}
			}
		}
	}
}

// TestP12_3ValidLarge passes level 0 with sides beyond MaxSize, and more levels than any image has.
func TestP12_3ValidLarge(t *testing.T) {
	checkValid(t, api.Texture{Levels: []api.Image{made(api.R8, 65, 1, 1)}}, false, "sides beyond MaxSize")
	checkValid(t, api.Texture{Levels: []api.Image{made(api.R8, 128, 128, 1), made(api.R8, 64, 64, 1), made(api.R8, 32, 32, 1)}}, false, "sides beyond MaxSize")
	checkValid(t, api.Texture{Levels: []api.Image{made(api.R8, 64, 64, 1), made(api.R8, 32, 32, 1)}}, true, "sides of MaxSize")
	checkValid(t, api.Texture{Levels: slices.Repeat([]api.Image{made(api.R8, 1, 1, 1)}, 1000)}, false, "too many levels")
	checkValid(t, api.Texture{Levels: make([]api.Image, 3)}, false, "zero levels")
}

// beyond returns coordinates of which at least one is beyond a side.
func beyond(width, height int) [][2]int {
	var result [][2]int
	for _, far := range []int{-1, -64, smallest, largest, 1 << 32, -1 << 32, 1 << 62} {
		result = append(result, [2]int{far, 0}, [2]int{0, far}, [2]int{far, far}, [2]int{width - 1, far}, [2]int{far, height - 1})
	}
	for x := range width {
		result = append(result, [2]int{x, -1}, [2]int{x, height})
	}
	for y := range height {
		result = append(result, [2]int{-1, y}, [2]int{width, y})
	}
	return result
}

func checkGet(t *testing.T, texture api.Texture, x, y, level int, want api.Vec4) {
	t.Helper()
	if got := Get(texture, x, y, level); got != want {
		t.Errorf("texel (%d, %d) of level %d of %v is %v, want %v", x, y, level, texture, got, want)
	}
}

func TestP12_4Get(t *testing.T) {
	for _, f := range formats() {
		for _, size := range [][2]int{{1, 1}, {5, 3}, {8, 8}, {1, 9}, {16, 2}} {
			texture := copied(expectedChain(made(f, size[0], size[1], 7)))
			unchanged := watch(t, texture)
			for i, m := range texture.Levels {
				for y := range m.Height {
					for x := range m.Width {
						checkGet(t, texture, x, y, i, texelAt(m, x, y))
					}
				}
				for _, at := range beyond(m.Width, m.Height) {
					checkGet(t, texture, at[0], at[1], i, api.Vec4{})
				}
			}
			for _, level := range []int{-1, len(texture.Levels), len(texture.Levels) + 1, 7, smallest, largest, 1 << 32, 1 << 62, -1 << 32} {
				checkGet(t, texture, 0, 0, level, api.Vec4{})
				checkGet(t, texture, -1, 0, level, api.Vec4{})
			}
			unchanged("Get")
		}
	}
	checkGet(t, api.Texture{}, 0, 0, 0, api.Vec4{})
}

// TestP12_4GetBroken reads from textures that are not valid: each level for itself may be.
func TestP12_4GetBroken(t *testing.T) {
	good := made(api.RGBA8, 2, 3, 9)
	for _, b := range broken() {
		texture := copied(api.Texture{Levels: []api.Image{good, b.m, good}})
		unchanged := watch(t, texture)
		for y := range 3 {
			for x := range 2 {
				checkGet(t, texture, x, y, 0, texelAt(good, x, y))
				checkGet(t, texture, x, y, 1, api.Vec4{})
				checkGet(t, texture, x, y, 2, texelAt(good, x, y))
			}
		}
		unchanged("Get")
	}
}

// variants returns textures of which no two are equal, some of them not valid.
func variants() []api.Texture {
	base := expectedChain(made(api.RGBA8, 6, 4, 11))
	result := []api.Texture{{}, base}
	for length := 1; length < len(base.Levels); length++ {
		result = append(result, api.Texture{Levels: base.Levels[:length]}, api.Texture{Levels: base.Levels[length:]})
	}
	for i, m := range base.Levels {
		for at := range m.Data {
			for _, bit := range []byte{1, 0x80} {
				changed := copied(base)
				changed.Levels[i].Data[at] ^= bit
				result = append(result, changed)
			}
		}
		format, width, height, data := m, m, m, m
		format.Format = api.RGB10A2
		width.Width++
		height.Height++
		data.Data = m.Data[:len(m.Data)-1]
		result = append(result, with(base, i, format), with(base, i, width), with(base, i, height), with(base, i, data), with(base, i, api.Image{}))
		for j := range i {
			exchanged := copied(base)
			exchanged.Levels[i], exchanged.Levels[j] = exchanged.Levels[j], exchanged.Levels[i]
			result = append(result, exchanged)
		}
		result = append(result, api.Texture{Levels: append(copied(base).Levels, m)})
	}
	return append(result, api.Texture{Levels: make([]api.Image, 1)}, api.Texture{Levels: make([]api.Image, 3)}, expectedChain(made(api.RGBA8, 6, 4, 12)), expectedChain(made(api.RGB565, 6, 4, 11)))
}

func TestP12_4Equal(t *testing.T) {
	all := variants()
	for i, a := range all {
		for j, b := range all {
			b = copied(b)
			unchanged := watch(t, a, b)
			if got := Equal(a, b); got != (i == j) {
				t.Errorf("whether the textures %d, %v, and %d, %v, are equal: %t", i, a, j, b, got)
			}
			unchanged("Equal")
		}
	}
	if !Equal(api.Texture{}, api.Texture{Levels: []api.Image{}}) || !Equal(api.Texture{Levels: make([]api.Image, 2)}, api.Texture{Levels: []api.Image{{Data: []byte{}}, {}}}) {
		t.Error("nil and empty slices are not equal")
	}
}

// exactHash returns the sum of the hashes, each multiplied by its index plus 1, in exact integers that are reduced modulo 2^64 at the end.
func exactHash(texture api.Texture) uint64 {
	sum := new(big.Int)
	for i, m := range texture.Levels {
		sum.Add(sum, new(big.Int).Mul(new(big.Int).SetUint64(image.Hash(m)), big.NewInt(int64(i+1))))
	}
	return sum.Mod(sum, new(big.Int).Lsh(big.NewInt(1), 64)).Uint64()
}

func TestP12_4Hash(t *testing.T) {
	all := variants()
	for _, f := range formats() {
		for i, size := range sides() {
			all = append(all, expectedChain(made(f, size[0], size[1], uint64(i))))
		}
	}
	for _, b := range broken() {
		all = append(all, api.Texture{Levels: []api.Image{made(api.R8, 2, 2, 1), b.m, made(api.R8, 1, 1, 2)}})
	}
	for _, texture := range all {
		texture = copied(texture)
		unchanged := watch(t, texture)
		if got, want := Hash(texture), exactHash(texture); got != want || Hash(copied(texture)) != want {
			t.Errorf("the hash of %v is %#x, want %#x", texture, got, want)
		}
		unchanged("Hash")
	}
}

func TestP12_4HashExamples(t *testing.T) {
	black := api.Image{Format: api.R8, Width: 1, Height: 1, Data: []byte{0}}
	for _, c := range []struct {
		texture api.Texture
		want    uint64
	}{
		// 0x9e749090540f50bf is the hash of the image.
		{api.Texture{}, 0}, {single(black), 0x9e749090540f50bf}, {api.Texture{Levels: []api.Image{black, black}}, 0xdb5db1b0fc2df23d}, {api.Texture{Levels: []api.Image{{}, black}}, 0x3ce92120a81ea17e}, {api.Texture{Levels: []api.Image{{}, {}}}, 0},
	} {
		if got := Hash(c.texture); got != c.want {
			t.Errorf("the hash of %v is %#x, want %#x", c.texture, got, c.want)
		}
	}
	seen := map[uint64]bool{}
	for _, texture := range variants() {
		if hash := Hash(texture); isRight(texture) {
			if seen[hash] {
				t.Errorf("%v has the hash of another texture", texture)
			}
			seen[hash] = true
		}
	}
}
