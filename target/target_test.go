package target_test

import (
	"fmt"
	"math"
	"math/big"
	"slices"
	"testing"

	"frustum/api"
	"frustum/codec"
	"frustum/depth"
	"frustum/image"
	"frustum/target"
	"frustum/texel"
)

const (
	one      = api.One
	largest  = math.MaxInt
	smallest = math.MinInt
)

// formats returns the texel formats, and then unknown ones.
func formats() []api.TexelFormat {
	return []api.TexelFormat{api.R8, api.RGBA8, api.RGB565, api.RGB10A2, api.R16F, api.RGBA16F, 0, 7, -1, 1 << 32, largest, smallest}
}

// depthFormats returns the depth formats, and then unknown ones.
func depthFormats() []api.DepthFormat {
	return []api.DepthFormat{api.NoDepth, api.D16, api.D24S8, 0, 4, -1, 1<<32 + 1, largest, smallest}
}

// greatest returns the greatest depth and stencil value of a depth format.
func greatest(d api.DepthFormat) (int, int) {
	switch d {
	case api.D16:
		return 65535, 0
	case api.D24S8:
		return 16777215, 255
	}
	return 0, 0
}

// state makes arbitrary numbers.
type state uint64

func (s *state) next(beyond int) int {
	*s = *s*6364136223846793005 + 1442695040888963407
	return int(*s>>33) % beyond
}

// number returns a number that is mostly near the interesting ones.
func (s *state) number() int {
	switch s.next(4) {
	case 0:
		return []int{0, -1, 255, 256, 257, 65535, 65536, 16777215, 16777216, one, -one, largest, smallest, 1 << 32, -256}[s.next(15)]
	case 1:
		*s = *s*6364136223846793005 + 1442695040888963407
		return int(*s) >> (*s >> 17 % 64)
	}
	return s.next(one + 1)
}

func (s *state) color() api.Vec4 {
	return api.Vec4{X: s.number(), Y: s.number(), Z: s.number(), W: s.number()}
}

// target returns a valid target with arbitrary contents. Behind the end of each of its lists there is more memory.
func (s *state) target(f api.TexelFormat, d api.DepthFormat, width, height, samples int) api.Target {
	t := api.Target{Width: width, Height: height, Samples: samples, Depth: d}
	mostDepth, mostStencil := greatest(d)
	for range samples {
		m := api.Image{Format: f, Width: width, Height: height}
		for range width*height*texel.Size(f) + 3 {
			m.Data = append(m.Data, byte(s.next(256)))
		}
		m.Data = m.Data[:len(m.Data)-3]
		t.Color = append(t.Color, m)
	}
	for range width*height*samples + 2 {
		t.Depths = append(t.Depths, s.next(mostDepth+1))
		t.Stencils = append(t.Stencils, s.next(mostStencil+1))
	}
	t.Depths, t.Stencils = t.Depths[:len(t.Depths)-2], t.Stencils[:len(t.Stencils)-2]
	return t
}

// any returns a small valid target of any kind.
func (s *state) any() api.Target {
	return s.target(formats()[s.next(6)], depthFormats()[s.next(3)], 1+s.next(5), 1+s.next(5), 1<<s.next(4))
}

// written returns all that a target refers to, with the memory behind the ends of its lists.
func written(t api.Target) string {
	text := fmt.Sprint(t.Width, t.Height, t.Samples, t.Depth, len(t.Color), t.Depths[:cap(t.Depths)], t.Stencils[:cap(t.Stencils)])
	for _, m := range t.Color {
		text += fmt.Sprint(m.Format, m.Width, m.Height, len(m.Data), m.Data[:cap(m.Data)])
	}
	return text
}

// watch returns a function that checks that targets are still what they are now, after the result of a call was spoiled.
func watch(t *testing.T, targets ...api.Target) func(result api.Target) {
	var before []string
	for _, u := range targets {
		before = append(before, written(u))
	}
	return func(result api.Target) {
		t.Helper()
		spoil(result)
		for i, u := range targets {
			if written(u) != before[i] {
				t.Fatalf("an argument was changed to %v", u)
			}
		}
	}
}

// spoil changes all that a target refers to.
func spoil(t api.Target) {
	for i := range t.Color {
		data := t.Color[i].Data[:cap(t.Color[i].Data)]
		for k := range data {
			data[k] ^= 0x55
		}
		t.Color[i].Width++
	}
	for _, list := range [][]int{t.Depths[:cap(t.Depths)], t.Stencils[:cap(t.Stencils)]} {
		for i := range list {
			list[i] = -99
		}
	}
}

// same reports whether two targets are equal in all that they refer to.
func same(a, b api.Target) bool {
	// Sprint writes nil lists like empty ones.
	return fmt.Sprint(a) == fmt.Sprint(b)
}

// sample is what a target holds for a sample.
type sample struct {
	texel          string
	depth, stencil int
}

// place is a sample of a pixel.
type place struct{ x, y, sample int }

// contents returns the samples of a valid target.
func contents(t api.Target) map[place]sample {
	all := map[place]sample{}
	at := 0
	for y := range t.Height {
		for x := range t.Width {
			for i := range t.Samples {
				size := texel.Size(t.Color[i].Format)
				from := (y*t.Width + x) * size
				all[place{x, y, i}] = sample{string(t.Color[i].Data[from : from+size]), t.Depths[at], t.Stencils[at]}
				at++
			}
		}
	}
	return all
}

// filled returns a target of the kind of another one with these samples.
func filled(t api.Target, all map[place]sample) api.Target {
	result := api.Target{Width: t.Width, Height: t.Height, Samples: t.Samples, Depth: t.Depth}
	for _, m := range t.Color {
		result.Color = append(result.Color, api.Image{Format: m.Format, Width: m.Width, Height: m.Height})
	}
	for y := range t.Height {
		for x := range t.Width {
			for i := range t.Samples {
				s := all[place{x, y, i}]
				result.Color[i].Data = append(result.Color[i].Data, s.texel...)
				result.Depths, result.Stencils = append(result.Depths, s.depth), append(result.Stencils, s.stencil)
			}
		}
	}
	return result
}

// expectedSample returns what is stored for a color, a depth value and a stencil value.
func expectedSample(t api.Target, color api.Vec4, z, stencil int) sample {
	mostDepth, mostStencil := greatest(t.Depth)
	reduced := new(big.Int).Mod(big.NewInt(int64(stencil)), big.NewInt(256))
	s := sample{texel: string(texel.Encode(t.Color[0].Format, color)), depth: min(max(z, 0), mostDepth)}
	if mostStencil > 0 {
		s.stencil = int(reduced.Int64())
	}
	return s
}

// broken returns targets that are not valid, each of which breaks one rule.
func broken() map[string]api.Target {
	s := state(77)
	all := map[string]api.Target{}
	// The contents of a target with two samples suit no other number.
	add := func(name string, change func(t *api.Target)) {
		for _, d := range depthFormats()[:3] {
			t := s.target(api.RGBA8, d, 3, 2, 2)
			change(&t)
			all[fmt.Sprintf("%s, depth %d", name, d)] = t
		}
	}
	all["zero"] = api.Target{}
	for _, n := range []int{0, -1, 2, 4, 65, 1 << 32, largest, smallest} {
		add(fmt.Sprintf("width %d", n), func(t *api.Target) { t.Width = n })
	}
	for _, n := range []int{0, -2, 1, 3, 65, 1 << 33, largest, smallest} {
		add(fmt.Sprintf("height %d", n), func(t *api.Target) { t.Height = n })
	}
	for _, n := range []int{0, 1, 3, 4, 8, -2, 1<<32 + 2, largest, smallest} {
		add(fmt.Sprintf("samples %d", n), func(t *api.Target) { t.Samples = n })
	}
	for _, d := range depthFormats()[3:] {
		add(fmt.Sprintf("depth format %d", d), func(t *api.Target) { t.Depth = d })
	}
	for _, size := range [][2]int{{4, 2}, {3, 3}, {1, 2}, {3, 1}} {
		add(fmt.Sprintf("lists for %v", size), func(t *api.Target) {
			t.Width, t.Height = size[0], size[1]
			t.Depths, t.Stencils = make([]int, 2*size[0]*size[1]), make([]int, 2*size[0]*size[1])
		})
	}
	add("swapped sides", func(t *api.Target) { t.Width, t.Height = 2, 3 })
	add("no images", func(t *api.Target) { t.Color = nil })
	add("an image too few", func(t *api.Target) { t.Color = t.Color[:1] })
	add("an image too many", func(t *api.Target) { t.Color = append(t.Color, t.Color[0]) })
	for i := range 2 {
		for _, f := range formats() {
			if f != api.RGBA8 {
				add(fmt.Sprintf("format %d of image %d", f, i), func(t *api.Target) { t.Color[i].Format = f })
			}
		}
		add(fmt.Sprintf("another valid format of image %d", i), func(t *api.Target) { t.Color[i] = s.target(api.R8, api.D16, 3, 2, 1).Color[0] })
		add(fmt.Sprintf("another size of image %d", i), func(t *api.Target) { t.Color[i] = s.target(api.RGBA8, api.D16, 2, 3, 1).Color[0] })
		add(fmt.Sprintf("data of image %d too short", i), func(t *api.Target) { t.Color[i].Data = t.Color[i].Data[1:] })
		add(fmt.Sprintf("data of image %d too long", i), func(t *api.Target) { t.Color[i].Data = append(t.Color[i].Data, 0) })
		add(fmt.Sprintf("no data of image %d", i), func(t *api.Target) { t.Color[i].Data = nil })
	}
	add("other images", func(t *api.Target) { t.Color = s.target(api.RGBA8, api.D16, 2, 3, 2).Color })
	add("no depths", func(t *api.Target) { t.Depths = nil })
	add("no stencils", func(t *api.Target) { t.Stencils = nil })
	add("depths too short", func(t *api.Target) { t.Depths = t.Depths[1:] })
	add("depths too long", func(t *api.Target) { t.Depths = append(t.Depths, 0) })
	add("stencils too short", func(t *api.Target) { t.Stencils = t.Stencils[1:] })
	add("stencils too long", func(t *api.Target) { t.Stencils = append(t.Stencils, 0) })
	for _, at := range []int{0, 5, 11} {
		for _, x := range []int{-1, 16777216, largest, smallest, 1 << 32} {
			add(fmt.Sprintf("depth %d at %d", x, at), func(t *api.Target) { t.Depths[at] = x })
		}
		for _, x := range []int{-1, 256, largest, smallest, 1 << 32} {
			add(fmt.Sprintf("stencil %d at %d", x, at), func(t *api.Target) { t.Stencils[at] = x })
		}
	}
	for i, x := range []int{1, 65536} {
		t := s.target(api.R8, depthFormats()[i], 2, 2, 1)
		t.Depths[3] = x
		all[fmt.Sprintf("depth %d beyond format %d", x, t.Depth)] = t
		t = s.target(api.R8, depthFormats()[i], 2, 2, 1)
		t.Stencils[3] = 1
		all[fmt.Sprintf("stencil in format %d", t.Depth)] = t
	}
	return all
}

func TestP42_1New(t *testing.T) {
	for _, f := range formats()[:6] {
		for _, d := range depthFormats()[:3] {
			for _, samples := range []int{1, 2, 4, 8} {
				for _, size := range [][2]int{{1, 1}, {3, 2}, {20, 9}, {64, 1}, {1, 64}, {64, 64}} {
					got, code := target.New(size[0], size[1], samples, f, d)
					again, _ := target.New(size[0], size[1], samples, f, d)
					black := api.Image{Format: f, Width: size[0], Height: size[1], Data: make([]byte, size[0]*size[1]*texel.Size(f))}
					zeros := make([]int, size[0]*size[1]*samples)
					want := api.Target{Width: size[0], Height: size[1], Samples: samples, Depth: d, Color: slices.Repeat([]api.Image{black}, samples), Depths: zeros, Stencils: zeros}
					if code != api.OK || !target.Valid(got) || !target.Equal(got, want) {
						t.Fatalf("New of %v, %d samples, formats %d and %d has error %d", size, samples, f, d, code)
					}
					// No two parts of the results share memory.
					got.Depths[0], got.Color[0].Data[0] = 1, 9
					if got.Stencils[0] != 0 || !target.Equal(again, want) || samples > 1 && got.Color[1].Data[0] != 0 {
						t.Fatal("parts of results share memory")
					}
				}
			}
		}
	}
	if u, code := target.New(20, 9, 4, api.RGBA8, api.D16); code != api.OK || len(u.Color) != 4 || len(u.Depths) != 720 || len(u.Stencils) != 720 {
		t.Errorf("the example has %d images and %d depths, error %d", len(u.Color), len(u.Depths), code)
	}
}

func TestP42_1NewErrors(t *testing.T) {
	sides := []int{1, 64, 0, 65, -1, 1 << 32, largest, smallest}
	counts := []int{1, 2, 4, 8, 0, 3, 5, 6, 7, 9, 16, -1, -2, 1<<32 + 1, largest, smallest}
	for i, f := range formats() {
		for k, d := range depthFormats() {
			for a, width := range sides {
				for b, height := range sides {
					for c, samples := range counts {
						want := api.OK
						switch {
						case i >= 6 || k >= 3:
							want = api.ErrFormat
						case a >= 2 || b >= 2:
							want = api.ErrSize
						case c >= 4:
							want = api.ErrCount
						default:
							continue
						}
						if got, code := target.New(width, height, samples, f, d); code != want || !same(got, api.Target{}) {
							t.Fatalf("New(%d, %d, %d, %d, %d) has error %d, want %d", width, height, samples, f, d, code, want)
						}
					}
				}
			}
		}
	}
}

func TestP42_1Valid(t *testing.T) {
	s := state(1)
	for range 500 {
		u := s.any()
		unchanged := watch(t, u)
		if !target.Valid(u) {
			t.Fatalf("%v is not valid", u)
		}
		unchanged(api.Target{})
	}
	for _, d := range depthFormats()[:3] {
		u := s.target(api.R8, d, 2, 1, 2)
		mostDepth, mostStencil := greatest(d)
		u.Depths[1], u.Depths[2], u.Stencils[0], u.Stencils[3] = mostDepth, 0, mostStencil, 0
		if !target.Valid(u) || mostDepth != depth.Max(d) {
			t.Errorf("%v is not valid", u)
		}
	}
	for name, u := range broken() {
		if target.Valid(u) {
			t.Errorf("a target with %s is valid", name)
		}
	}
}

func TestP42_1Index(t *testing.T) {
	s := state(2)
	for range 200 {
		u := s.any()
		next := 0
		for y := range u.Height {
			for x := range u.Width {
				for i := range u.Samples {
					if got := target.Index(u, x, y, i); got != next {
						t.Fatalf("the index of (%d, %d), sample %d, is %d, want %d", x, y, i, got, next)
					}
					next++
				}
			}
		}
		for _, p := range outside(u) {
			if got := target.Index(u, p.x, p.y, p.sample); got != -1 {
				t.Fatalf("the index of %v in %dx%d with %d samples is %d", p, u.Width, u.Height, u.Samples, got)
			}
		}
	}
	large := s.target(api.R8, api.D24S8, 64, 64, 8)
	if got := target.Index(large, 63, 63, 7); got != 32767 {
		t.Errorf("the last index is %d", got)
	}
	for name, u := range broken() {
		if got := target.Index(u, 0, 0, 0); got != -1 {
			t.Errorf("a target with %s has the index %d", name, got)
		}
	}
}

// outside returns places that a target does not have.
func outside(t api.Target) []place {
	var all []place
	for _, x := range []int{-1, t.Width, t.Width + 1, 64, 1 << 32, largest, smallest} {
		all = append(all, place{x, 0, 0})
	}
	for _, y := range []int{-1, t.Height, t.Height + 1, 64, 1 << 32, largest, smallest} {
		all = append(all, place{0, y, 0})
	}
	for _, i := range []int{-1, t.Samples, t.Samples + 1, 8, 1 << 32, largest, smallest} {
		all = append(all, place{0, 0, i})
	}
	return append(all, place{-1, 1, 0}, place{t.Width, -1, 0}, place{-1, 0, t.Samples}, place{largest, largest, largest}, place{smallest, smallest, smallest})
}

func TestP42_2Read(t *testing.T) {
	s := state(3)
	for range 300 {
		u := s.any()
		unchanged := watch(t, u)
		for p, want := range contents(u) {
			color := texel.Decode(u.Color[0].Format, []byte(want.texel))
			if got := target.Color(u, p.x, p.y, p.sample); got != color {
				t.Fatalf("the color of %v is %v, want %v", p, got, color)
			}
			if z, n := target.Depth(u, p.x, p.y, p.sample), target.Stencil(u, p.x, p.y, p.sample); z != want.depth || n != want.stencil {
				t.Fatalf("%v has the depth %d and the stencil value %d, want %v", p, z, n, want)
			}
		}
		for _, p := range outside(u) {
			checkNothing(t, u, p)
		}
		unchanged(api.Target{})
	}
	for _, u := range broken() {
		checkNothing(t, u, place{0, 0, 0})
	}
}

// checkNothing checks that nothing is read at a place that does not exist.
func checkNothing(t *testing.T, u api.Target, p place) {
	t.Helper()
	if c, z, n := target.Color(u, p.x, p.y, p.sample), target.Depth(u, p.x, p.y, p.sample), target.Stencil(u, p.x, p.y, p.sample); c != (api.Vec4{}) || z != 0 || n != 0 {
		t.Fatalf("%v, which does not exist, has the color %v, the depth %d and the stencil value %d", p, c, z, n)
	}
}

// checkStore compares Store with its second reading.
func checkStore(t *testing.T, u api.Target, p place, color api.Vec4, z, stencil int) api.Target {
	t.Helper()
	unchanged := watch(t, u)
	got := target.Store(u, p.x, p.y, p.sample, color, z, stencil)
	want := u
	if target.Valid(u) {
		all := contents(u)
		if _, found := all[p]; found {
			all[p] = expectedSample(u, color, z, stencil)
			want = filled(u, all)
		}
	}
	if !same(got, want) {
		t.Fatalf("Store of %v, %d and %d at %v in %v gives %v, want %v", color, z, stencil, p, u, got, want)
	}
	unchanged(target.Store(u, p.x, p.y, p.sample, color, z, stencil))
	return got
}

func TestP42_2Store(t *testing.T) {
	u, _ := target.New(2, 2, 2, api.RGBA8, api.D24S8)
	u = checkStore(t, u, place{1, 0, 1}, api.Vec4{X: one, Z: one / 2, W: 2 * one}, 77, 256+3)
	if c, z, n := target.Color(u, 1, 0, 1), target.Depth(u, 1, 0, 1), target.Stencil(u, 1, 0, 1); c != (api.Vec4{X: one, Z: 32897, W: one}) || z != 77 || n != 3 {
		t.Errorf("the sample has the color %v, the depth %d and the stencil value %d", c, z, n)
	}
	for _, d := range depthFormats()[:3] {
		u, _ := target.New(1, 2, 1, api.R8, d)
		most, _ := greatest(d)
		for _, z := range []int{0, 1, -1, most, most - 1, most + 1, largest, smallest, 1 << 32} {
			for _, n := range []int{0, 1, 127, 255, 256, 257, -1, -255, -256, largest, smallest, 1<<32 + 7} {
				checkStore(t, u, place{0, 1, 0}, api.Vec4{X: z, Y: n}, z, n)
			}
		}
	}
	s := state(4)
	for range 2000 {
		u := s.any()
		p := place{s.next(u.Width), s.next(u.Height), s.next(u.Samples)}
		if s.next(4) == 0 {
			p = outside(u)[s.next(26)]
		}
		checkStore(t, u, p, s.color(), s.number(), s.number())
	}
	for _, u := range broken() {
		checkStore(t, u, place{0, 0, 0}, s.color(), s.number(), s.number())
	}
}

func TestP42_2Clear(t *testing.T) {
	s := state(5)
	check := func(u api.Target, color api.Vec4, z, stencil int) {
		t.Helper()
		unchanged := watch(t, u)
		got, want := target.Clear(u, color, z, stencil), u
		if target.Valid(u) {
			all := contents(u)
			for p := range all {
				all[p] = expectedSample(u, color, depth.Quantize(u.Depth, z), stencil)
			}
			want = filled(u, all)
		}
		if !same(got, want) {
			t.Fatalf("Clear of %v with %v, %d and %d gives %v, want %v", u, color, z, stencil, got, want)
		}
		unchanged(target.Clear(u, color, z, stencil))
		// The images of a result do not share memory either.
		if target.Valid(u) && u.Samples > 1 {
			got.Color[0].Data[0] ^= 1
			if slices.Equal(got.Color[0].Data, got.Color[1].Data) {
				t.Fatal("two images share memory")
			}
		}
	}
	for _, d := range depthFormats()[:3] {
		u, _ := target.New(3, 2, 4, api.RGB565, d)
		for _, z := range []int{0, 1, one / 2, one - 1, one, one + 1, -1, largest, smallest} {
			for _, n := range []int{0, 1, 255, 256, -1, 257, largest, smallest} {
				check(u, api.Vec4{X: z, Y: n, Z: one}, z, n)
			}
		}
	}
	u, _ := target.New(1, 1, 1, api.R8, api.D16)
	if got := target.Clear(u, api.Vec4{X: one}, one, 9); got.Depths[0] != 65535 || got.Stencils[0] != 0 || got.Color[0].Data[0] != 255 {
		t.Errorf("a cleared target is %v", got)
	}
	for range 1000 {
		check(s.any(), s.color(), s.number(), s.number())
	}
	for _, u := range broken() {
		check(u, s.color(), s.number(), s.number())
	}
}

// lies reports whether x is one of size numbers from low on, in exact integers.
func lies(x, low, size int) bool {
	end := new(big.Int).Add(big.NewInt(int64(low)), big.NewInt(int64(size)))
	return x >= low && big.NewInt(int64(x)).Cmp(end) < 0
}

// checkMerge compares Merge with its second reading.
func checkMerge(t *testing.T, u, from api.Target, alike bool, x, y, width, height int) {
	t.Helper()
	unchanged := watch(t, u, from)
	got, want := target.Merge(u, from, x, y, width, height), u
	if alike {
		all, others := contents(u), contents(from)
		for p := range all {
			if lies(p.x, x, width) && lies(p.y, y, height) {
				all[p] = others[p]
			}
		}
		want = filled(u, all)
	}
	if !same(got, want) {
		t.Fatalf("Merge of %v from %v at (%d, %d) of %dx%d gives %v, want %v", u, from, x, y, width, height, got, want)
	}
	unchanged(target.Merge(u, from, x, y, width, height))
}

func TestP42_3Merge(t *testing.T) {
	s := state(6)
	u, from := s.target(api.RGBA8, api.D24S8, 3, 2, 2), s.target(api.RGBA8, api.D24S8, 3, 2, 2)
	for x := -2; x <= 4; x++ {
		for y := -2; y <= 3; y++ {
			for width := -1; width <= 6; width++ {
				for height := -1; height <= 5; height++ {
					checkMerge(t, u, from, true, x, y, width, height)
				}
			}
		}
	}
	far := []int{largest, largest - 1, smallest, smallest + 1, smallest + 2, 1 << 32, -1 << 32, 0, 1, -1, 3}
	for _, a := range far {
		for _, b := range far {
			checkMerge(t, u, from, true, a, 0, b, 2)
			checkMerge(t, u, from, true, 0, a, 3, b)
			checkMerge(t, u, from, true, a, a, b, b)
		}
	}
	for range 1000 {
		u := s.any()
		from := s.target(u.Color[0].Format, u.Depth, u.Width, u.Height, u.Samples)
		checkMerge(t, u, from, true, s.next(7)-2, s.next(7)-2, s.next(7)-1, s.next(7)-1)
	}
}

func TestP42_3MergeDifferent(t *testing.T) {
	s := state(7)
	u := s.target(api.RGBA8, api.D16, 3, 2, 2)
	others := []api.Target{
		s.target(api.RGBA8, api.D16, 2, 2, 2), s.target(api.RGBA8, api.D16, 3, 3, 2), s.target(api.RGBA8, api.D16, 2, 3, 2), s.target(api.RGBA8, api.D16, 3, 2, 1), s.target(api.RGBA8, api.D16, 3, 2, 4), s.target(api.RGB10A2, api.D16, 3, 2, 2), s.target(api.R8, api.D16, 3, 2, 2), s.target(api.RGBA8, api.D24S8, 3, 2, 2), s.target(api.RGBA8, api.NoDepth, 3, 2, 2),
	}
	for _, other := range others {
		checkMerge(t, u, other, false, 0, 0, 3, 3)
		checkMerge(t, other, u, false, 0, 0, 3, 3)
	}
	for _, wrong := range broken() {
		for _, d := range depthFormats()[:3] {
			good := s.target(api.RGBA8, d, 3, 2, 2)
			checkMerge(t, good, wrong, false, 0, 0, 3, 2)
			checkMerge(t, wrong, good, false, 0, 0, 3, 2)
		}
		checkMerge(t, wrong, wrong, false, 0, 0, 3, 2)
	}
}

// variants returns targets of which no two are equal.
func variants() []api.Target {
	s := state(8)
	var all []api.Target
	add := func(change func(t *api.Target)) {
		t := target.Clone(s.target(api.RGBA8, api.D24S8, 2, 2, 2))
		t = filled(t, nil)
		for i := range t.Color {
			t.Color[i].Data = make([]byte, 16)
		}
		change(&t)
		all = append(all, t)
	}
	add(func(*api.Target) {})
	for _, n := range []int{1, 3, 0, -2, largest, smallest} {
		add(func(t *api.Target) { t.Width = n })
		add(func(t *api.Target) { t.Height = n })
		add(func(t *api.Target) { t.Samples = n })
		add(func(t *api.Target) { t.Color[1].Width = n })
		add(func(t *api.Target) { t.Color[0].Height = n })
	}
	for _, d := range []api.DepthFormat{api.NoDepth, api.D16, 0, 4, -1} {
		add(func(t *api.Target) { t.Depth = d })
	}
	for i := range 8 {
		add(func(t *api.Target) { t.Depths[i] = 1 })
		add(func(t *api.Target) { t.Stencils[i] = 1 })
		add(func(t *api.Target) { t.Color[i%2].Data[i] = 1 })
		add(func(t *api.Target) { t.Color[(i+1)%2].Data[i+8] = 128 })
	}
	add(func(t *api.Target) { t.Color = t.Color[:1] })
	add(func(t *api.Target) { t.Color = nil })
	add(func(t *api.Target) { t.Color[0].Format = api.RGB10A2 })
	add(func(t *api.Target) { t.Color[1].Data = nil })
	add(func(t *api.Target) { t.Depths = t.Depths[:7] })
	add(func(t *api.Target) { t.Depths = nil })
	add(func(t *api.Target) { t.Stencils = t.Stencils[:7] })
	add(func(t *api.Target) { t.Stencils = nil })
	return append(all, api.Target{})
}

func TestP42_3Equal(t *testing.T) {
	all := variants()
	for i, a := range all {
		for k, b := range all {
			b = filledLike(b)
			unchanged := watch(t, a, b)
			if got := target.Equal(a, b); got != (i == k) {
				t.Errorf("Equal of %v and %v is %t", a, b, got)
			}
			unchanged(api.Target{})
		}
	}
	if !target.Equal(api.Target{}, api.Target{Color: []api.Image{}, Depths: []int{}, Stencils: []int{}}) {
		t.Error("nil and empty lists are not equal")
	}
}

// filledLike returns a copy of a target, also if it is not valid.
func filledLike(t api.Target) api.Target {
	t.Depths, t.Stencils = append([]int{}, t.Depths...), append([]int{}, t.Stencils...)
	t.Color = append([]api.Image{}, t.Color...)
	for i, m := range t.Color {
		t.Color[i].Data = append([]byte{}, m.Data...)
	}
	return t
}

func TestP42_3Clone(t *testing.T) {
	s := state(9)
	all := variants()
	for range 200 {
		all = append(all, s.any())
	}
	for _, u := range broken() {
		all = append(all, u)
	}
	for _, u := range all {
		unchanged := watch(t, u)
		first, second := target.Clone(u), target.Clone(u)
		if !same(first, u) || !target.Equal(first, u) {
			t.Fatalf("the clone of %v is %v", u, first)
		}
		unchanged(first)
		if !same(second, u) {
			t.Fatal("two clones share memory")
		}
	}
}

func TestP42_3Hash(t *testing.T) {
	u := api.Target{Width: 2, Height: 1, Samples: 2, Depth: api.D24S8, Color: []api.Image{{Format: api.R8, Width: 2, Height: 1, Data: []byte("ab")}, {Format: api.R8, Width: 2, Height: 1, Data: []byte("cd")}}, Depths: []int{1, 64, 0, 2}, Stencils: []int{3, 0, 0, 255}}
	if got, want := target.Hash(u), codec.Hash([]byte("\x04\x02\x04\x06abcd\x08\x02\x80\x01\x00\x04\x08\x06\x00\x00\xfe\x03")); got != want {
		t.Errorf("the hash is %#x, want %#x", got, want)
	}
	s := state(10)
	for range 500 {
		u := s.any()
		unchanged := watch(t, u)
		b := codec.AppendInt(codec.AppendInt(codec.AppendInt(codec.AppendInt(nil, u.Width), u.Height), u.Samples), int(u.Depth))
		for _, m := range u.Color {
			b = append(b, m.Data...)
		}
		for _, list := range [][]int{u.Depths, u.Stencils} {
			b = codec.AppendInt(b, len(list))
			for _, x := range list {
				b = codec.AppendInt(b, x)
			}
		}
		if got, want := target.Hash(u), codec.Hash(b); got != want {
			t.Fatalf("the hash of %v is %#x, want %#x", u, got, want)
		}
		unchanged(api.Target{})
	}
	for name, u := range broken() {
		if got := target.Hash(u); got != 0 {
			t.Errorf("the hash of a target with %s is %#x", name, got)
		}
	}
	seen := map[uint64]bool{}
	for _, u := range variants() {
		if target.Valid(u) && seen[target.Hash(u)] {
			t.Errorf("%v has the hash of another target", u)
		}
		seen[target.Hash(u)] = true
	}
}

// TestP42_4Arbitrary stores samples one after the other, and reads all of them again.
func TestP42_4Arbitrary(t *testing.T) {
	s := state(11)
	for range 150 {
		u := s.any()
		colors := map[place]api.Vec4{}
		values := contents(u)
		for p := range values {
			colors[p] = target.Color(u, p.x, p.y, p.sample)
		}
		for range 20 {
			p := place{s.next(u.Width), s.next(u.Height), s.next(u.Samples)}
			color, z, n := s.color(), s.number(), s.number()
			u = target.Store(u, p.x, p.y, p.sample, color, z, n)
			colors[p], values[p] = texel.Quantize(u.Color[0].Format, color), expectedSample(u, color, z, n)
			for p, color := range colors {
				if c := target.Color(u, p.x, p.y, p.sample); c != color {
					t.Fatalf("the color of %v is %v, want %v", p, c, color)
				}
				if z, n := target.Depth(u, p.x, p.y, p.sample), target.Stencil(u, p.x, p.y, p.sample); z != values[p].depth || n != values[p].stencil {
					t.Fatalf("%v has the depth %d and the stencil value %d, want %v", p, z, n, values[p])
				}
			}
			if !target.Valid(u) || image.Hash(u.Color[0]) == 0 {
				t.Fatalf("%v is not valid", u)
			}
		}
	}
}
