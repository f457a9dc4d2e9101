package sampler

import (
	"math/big"
	"testing"

	"frustum/api"
	"frustum/vec"
)

// exactDetail returns what LevelOfDetail must return for a valid sampler, in exact integers.
func exactDetail(s api.Sampler, lod int) int {
	limit := func(x, low, high int) int { return max(low, min(x, high)) }
	sum := new(big.Int).Add(big.NewInt(int64(limit(lod, -api.MaxValue, api.MaxValue))), big.NewInt(int64(s.LODBias)))
	return limit(int(sum.Int64()), s.MinLOD, s.MaxLOD)
}

// levelsOfDetail returns the numbers at and next to each multiple of One/2 that a sampler may have, the ends of the saturated numbers, and the ends of int.
func levelsOfDetail() []int {
	result := []int{smallest, smallest + 1, largest, largest - 1, 1 << 32, -1 << 32, 1 << 62, -1 << 62, 1<<32 + one}
	for half := -36; half <= 36; half++ {
		for near := -2; near <= 2; near++ {
			result = append(result, half*one/2+near)
		}
	}
	for _, bias := range []int{0, one, 8 * one, -8 * one} {
		for near := -1; near <= 1; near++ {
			result = append(result, api.MaxValue+bias+near, -api.MaxValue+bias+near)
		}
	}
	return result
}

// ranges returns valid pairs of MinLOD and MaxLOD.
func ranges() [][2]int {
	return [][2]int{{0, 8 * one}, {0, 0}, {8 * one, 8 * one}, {one, one}, {12345, 12345}, {one / 2, 7*one + 1}, {0, 1}, {8*one - 1, 8 * one}, {2 * one, 3 * one}}
}

func TestP13_3LevelOfDetail(t *testing.T) {
	for _, limits := range ranges() {
		for _, bias := range []int{0, 1, -1, one / 2, one, -one, 3*one + 7, 8*one - 1, 8 * one, -8*one + 1, -8 * one} {
			s := usual()
			s.MinLOD, s.MaxLOD, s.LODBias = limits[0], limits[1], bias
			for _, lod := range levelsOfDetail() {
				if got, want := LevelOfDetail(s, lod), exactDetail(s, lod); got != want {
					t.Errorf("the level of detail of %d with the bias %d and the limits %v is %d, want %d", lod, bias, limits, got, want)
				}
			}
		}
	}
	for _, s := range brokenSamplers() {
		for _, lod := range []int{0, 1, one, 3 * one, 4*one + 1, -one, largest, smallest} {
			if got := LevelOfDetail(s, lod); got != 0 {
				t.Errorf("the level of detail of %d with %+v, which is not valid, is %d", lod, s, got)
			}
		}
	}
}

func TestP13_3DetailExamples(t *testing.T) {
	for _, c := range []struct{ lod, bias, low, high, want int }{
		{0, 0, 0, 8 * one, 0}, {one, 0, 0, 8 * one, one}, {one, one / 2, 0, 8 * one, 3 * one / 2}, {one, -2 * one, 0, 8 * one, 0}, {one, 0, 2 * one, 3 * one, 2 * one}, {9 * one, 0, 0, 8 * one, 8 * one}, {9 * one, -one, 0, 8 * one, 8 * one}, {9 * one, -8 * one, 0, 8 * one, one},
		{one, 5, one / 4, one / 4, one / 4}, {largest, -8 * one, 0, 8 * one, 8 * one}, {smallest, 8 * one, one, 8 * one, one}, {largest, 8 * one, 0, 7 * one, 7 * one}, {smallest, -8 * one, 3, 7 * one, 3}, {largest - 8*one + 1, 8 * one, 0, 8 * one, 8 * one},
	} {
		s := usual()
		s.LODBias, s.MinLOD, s.MaxLOD = c.bias, c.low, c.high
		if got := LevelOfDetail(s, c.lod); got != c.want {
			t.Errorf("the level of detail of %d with the bias %d in [%d, %d] is %d, want %d", c.lod, c.bias, c.low, c.high, got, c.want)
		}
	}
}

// expectedSample returns what Sample must return for a valid texture and a valid sampler, by the definition.
func expectedSample(t api.Texture, s api.Sampler, u, v, lod int) api.Vec4 {
	d, last := exactDetail(s, lod), len(t.Levels)-1
	filter := s.Minify
	if d == 0 {
		filter = s.Magnify
	}
	if s.Mipmap == api.Nearest {
		level, _ := split(big.NewInt(int64(d + one/2)))
		return expectedLevel(t, s, u, v, min(level, last), filter)
	}
	level, rest := split(big.NewInt(int64(d)))
	first, second := expectedLevel(t, s, u, v, min(level, last), filter), expectedLevel(t, s, u, v, min(level+1, last), filter)
	return vec.Lerp(first, second, rest)
}

// TestP13_3Sample samples with each combination of filters at each level of detail.
func TestP13_3Sample(t *testing.T) {
	places := [][2]int{{0, 0}, {one / 3, one / 5}, {one - 1, one / 2}, {-one / 7, 2 * one}, {one + 1, -5}, {largest, smallest}}
	for _, size := range [][2]int{{1, 1}, {8, 8}, {5, 3}, {2, 16}, {64, 64}} {
		full := texture(api.RGBA8, size[0], size[1])
		for _, levels := range []int{1, 2, len(full.Levels)} {
			texture := cut(full, min(levels, len(full.Levels)))
			unchanged := watch(t, texture)
			for n := range 8 {
				s := usual()
				s.Magnify, s.Minify, s.Mipmap = filters()[n%2], filters()[n/2%2], filters()[n/4]
				for i, lod := range levelsOfDetail() {
					s.AddressU, s.AddressV = modes()[i%4], modes()[i/4%4]
					for j, bias := range []int{0, one / 4, -3 * one, 1, 8 * one} {
						limits := ranges()[j*i%len(ranges())]
						s.LODBias, s.MinLOD, s.MaxLOD = bias, limits[0], limits[1]
						for _, at := range places {
							if got, want := Sample(texture, s, at[0], at[1], lod), expectedSample(texture, s, at[0], at[1], lod); got != want {
								t.Errorf("%d levels of size %v with %+v at %v for %d are %v, want %v", len(texture.Levels), size, s, at, lod, got, want)
							}
						}
					}
				}
			}
			unchanged()
		}
	}
}

// TestP13_3Examples has levels of one color each, 0, One/5, 2*One/5 and 3*One/5, except for level 0, in which two texels differ.
func TestP13_3Examples(t *testing.T) {
	texture := api.Texture{Levels: []api.Image{{Format: api.R8, Width: 8, Height: 1, Data: []byte{0, 0, 0, 0, 255, 0, 0, 0}}, {Format: api.R8, Width: 4, Height: 1, Data: []byte{51, 51, 51, 51}}, {Format: api.R8, Width: 2, Height: 1, Data: []byte{102, 102}}, {Format: api.R8, Width: 1, Height: 1, Data: []byte{153}}}}
	for _, c := range []struct {
		magnify, minify, between api.Filter
		lod, want                int
	}{
		{api.Nearest, api.Linear, api.Nearest, 0, 65536}, {api.Linear, api.Nearest, api.Nearest, 0, 32768}, {api.Nearest, api.Linear, api.Nearest, 1, 32768}, {api.Linear, api.Nearest, api.Nearest, 1, 65536}, {api.Linear, api.Nearest, api.Nearest, -1, 32768},
		{api.Nearest, api.Linear, api.Linear, 0, 65536}, {api.Linear, api.Nearest, api.Linear, 0, 32768}, {api.Linear, api.Nearest, api.Linear, 1, 65535}, {api.Nearest, api.Linear, api.Linear, 1, 32768},
		{api.Linear, api.Nearest, api.Nearest, one/2 - 1, 65536}, {api.Linear, api.Nearest, api.Nearest, one / 2, 13107}, {api.Linear, api.Nearest, api.Nearest, one, 13107}, {api.Linear, api.Nearest, api.Nearest, 3*one/2 - 1, 13107}, {api.Linear, api.Nearest, api.Nearest, 3 * one / 2, 26214},
		{api.Linear, api.Nearest, api.Linear, one / 2, 39321}, {api.Linear, api.Nearest, api.Linear, one, 13107}, {api.Linear, api.Nearest, api.Linear, one + one/4, 16384}, {api.Linear, api.Nearest, api.Linear, 2*one + one/2, 32768}, {api.Linear, api.Nearest, api.Linear, 3 * one, 39322}, {api.Linear, api.Nearest, api.Linear, 3*one + one/2, 39322},
		{api.Linear, api.Nearest, api.Nearest, 5 * one / 2, 39322}, {api.Linear, api.Nearest, api.Nearest, 8 * one, 39322}, {api.Linear, api.Nearest, api.Linear, largest, 39322}, {api.Linear, api.Nearest, api.Linear, smallest, 32768},
	} {
		s := usual()
		s.AddressU, s.AddressV, s.LODBias = api.Repeat, api.Repeat, 0
		s.Magnify, s.Minify, s.Mipmap = c.magnify, c.minify, c.between
		if got := Sample(texture, s, one/2, 0, c.lod); got != vector(c.want, 0, 0, one) {
			t.Errorf("the filters %d, %d and %d give %v for %d, want %d", c.magnify, c.minify, c.between, got, c.lod, c.want)
		}
	}
	dot := api.Texture{Levels: []api.Image{{Format: api.RGBA8, Width: 1, Height: 1, Data: []byte{255, 51, 102, 153}}}}
	for n := range 8 {
		for _, u := range ends() {
			for _, lod := range levelsOfDetail() {
				s := usual()
				s.AddressU, s.AddressV, s.Magnify, s.Minify, s.Mipmap = api.Repeat, api.Repeat, filters()[n%2], filters()[n/2%2], filters()[n/4]
				if got := Sample(dot, s, u, -u, lod); got != vector(one, 13107, 26214, 39322) {
					t.Errorf("a texture of one texel at (%d, %d) for %d is %v", u, -u, lod, got)
				}
			}
		}
	}
}

func TestP13_3Nothing(t *testing.T) {
	lods := []int{0, 1, one, 3 * one, 100 * one, -one, largest, smallest}
	for n := range 8 {
		s := usual()
		s.AddressU, s.AddressV = api.ClampBorder, api.ClampBorder
		s.Magnify, s.Minify, s.Mipmap = filters()[n%2], filters()[n/2%2], filters()[n/4]
		for _, broken := range brokenTextures() {
			unchanged := watch(t, broken)
			for _, lod := range lods {
				for _, u := range []int{0, one / 2, -one} {
					if got := Sample(broken, s, u, u, lod); got != (api.Vec4{}) {
						t.Errorf("a sample of a texture that is not valid at %d for %d is %v", u, lod, got)
					}
				}
			}
			unchanged()
		}
	}
	good := texture(api.RGBA8, 4, 4)
	for _, broken := range brokenSamplers() {
		for _, lod := range lods {
			for _, u := range []int{0, one / 2, -one} {
				if got := Sample(good, broken, u, u, lod); got != (api.Vec4{}) {
					t.Errorf("a sample with %+v, which is not valid, at %d for %d is %v", broken, u, lod, got)
				}
			}
		}
	}
}
