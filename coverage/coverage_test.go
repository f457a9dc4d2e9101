package coverage_test

import (
	"fmt"
	"math"
	"slices"
	"testing"

	"frustum/api"
	"frustum/coverage"
	"frustum/edge"
)

const (
	end      = api.MaxScreen
	largest  = math.MaxInt
	smallest = math.MinInt
)

// samples are the positions of the samples, as the chapter lists them.
var samples = map[int]string{
	1: "[[128 128]]", 2: "[[192 192] [64 64]]", 4: "[[96 32] [224 96] [32 160] [160 224]]",
	8: "[[144 80] [112 176] [208 144] [80 48] [48 208] [16 112] [176 240] [240 16]]",
}

// counts returns the valid numbers of samples, and others.
func counts() []int {
	return []int{1, 2, 4, 8, 0, 3, 5, 6, 7, 9, 16, -1, -2, -8, 1 << 32, 1<<32 + 1, 1<<62 + 4, largest, smallest}
}

// places returns coordinates of pixels at both ends, and beyond them.
func places() []int {
	return []int{0, 1, 5, 62, 63, 64, 65, -1, -2, 256, 1 << 32, 1<<32 + 5, 1<<55 + 1, largest, smallest, smallest + 5}
}

// triangle returns a triangle whose vertices have these coordinates.
func triangle(x0, y0, x1, y1, x2, y2 int) api.Triangle {
	return api.Triangle{V: [3]api.ScreenVertex{{X: x0, Y: y0}, {X: x1, Y: y1}, {X: x2, Y: y2}}}
}

// clockwise returns the triangle with these vertices in clockwise order, and whether it is valid.
func clockwise(a, b, c [2]int) (api.Triangle, bool) {
	tri := triangle(a[0], a[1], b[0], b[1], c[0], c[1])
	if edge.Valid(tri) {
		return tri, true
	}
	tri = triangle(a[0], a[1], c[0], c[1], b[0], b[1])
	return tri, edge.Valid(tri)
}

// state makes arbitrary triangles.
type state uint64

func (s *state) next(beyond int) int {
	*s = *s*6364136223846793005 + 1442695040888963407
	return int(*s>>33) % beyond
}

// point returns a point of the screen, often one at a multiple of a step, where edges go through samples.
func (s *state) point(size int) [2]int {
	step := []int{1, 16, 32, 128, 256}[s.next(5)]
	return [2]int{s.next(size/step+1) * step, s.next(size/step+1) * step}
}

func (s *state) triangle(size int) api.Triangle {
	for {
		if tri, valid := clockwise(s.point(size), s.point(size), s.point(size)); valid {
			return tri
		}
	}
}

// covers reports whether a triangle covers a point: the point is on the right side of each edge, or on an edge that goes up or horizontally to the right.
func covers(t api.Triangle, x, y int) bool {
	if !edge.Valid(t) {
		return false
	}
	for i := range 3 {
		a, b := t.V[i], t.V[(i+1)%3]
		dx, dy := b.X-a.X, b.Y-a.Y
		side := dx*(y-a.Y) - dy*(x-a.X)
		if side < 0 || side == 0 && !(dy < 0 || dy == 0 && dx > 0) {
			return false
		}
	}
	return true
}

// expectedMask returns the mask of the samples of a pixel, which a text lists.
func expectedMask(t api.Triangle, x, y, n int) int {
	if x < 0 || x > 63 || y < 0 || y > 63 || samples[n] == "" {
		return 0
	}
	mask := 0
	for i, position := range coverage.Positions(n) {
		if covers(t, 256*x+position[0], 256*y+position[1]) {
			mask += 1 << i
		}
	}
	return mask
}

func TestP35_1Positions(t *testing.T) {
	for i, n := range counts() {
		if got := coverage.ValidSamples(n); got != (i < 4) {
			t.Errorf("ValidSamples(%d) is %t", n, got)
		}
		got := coverage.Positions(n)
		if i < 4 && fmt.Sprint(got) != samples[n] || i >= 4 && got != nil {
			t.Errorf("the positions of %d samples are %v, want %s", n, got, samples[n])
		}
		clear(got[:cap(got)])
		if again := coverage.Positions(n); i < 4 && fmt.Sprint(again) != samples[n] {
			t.Errorf("the positions of %d samples share memory: %v", n, again)
		}
	}
}

func TestP35_2SamplePoint(t *testing.T) {
	for _, c := range [][6]int{
		{0, 0, 1, 0, 128, 128}, {63, 63, 1, 0, 16256, 16256}, {5, 7, 4, 2, 1312, 1952}, {5, 7, 8, 7, 1520, 1808}, {5, 7, 8, 8, -1, -1}, {5, 7, 8, -1, -1, -1}, {5, 7, 3, 0, -1, -1}, {5, 7, 0, 0, -1, -1}, {64, 0, 1, 0, -1, -1}, {0, 64, 1, 0, -1, -1}, {-1, 0, 1, 0, -1, -1}, {0, -1, 1, 0, -1, -1}, {0, 0, 1, 1, -1, -1}, {0, 0, 2, 1, 64, 64}, {0, 0, 2, 2, -1, -1},
	} {
		if x, y := coverage.SamplePoint(c[0], c[1], c[2], c[3]); x != c[4] || y != c[5] {
			t.Errorf("sample %d of %d of the pixel (%d, %d) is at (%d, %d), want (%d, %d)", c[3], c[2], c[0], c[1], x, y, c[4], c[5])
		}
	}
	for _, n := range counts() {
		for _, x := range places() {
			for _, y := range places() {
				for _, i := range append(places(), 2, 3, 4, 6, 7, 8, 9) {
					wantX, wantY := -1, -1
					if list := coverage.Positions(n); 0 <= x && x < 64 && 0 <= y && y < 64 && i >= 0 && i < len(list) {
						wantX, wantY = 256*x+list[i][0], 256*y+list[i][1]
					}
					if gotX, gotY := coverage.SamplePoint(x, y, n, i); gotX != wantX || gotY != wantY {
						t.Errorf("sample %d of %d of the pixel (%d, %d) is at (%d, %d), want (%d, %d)", i, n, x, y, gotX, gotY, wantX, wantY)
					}
				}
			}
		}
	}
}

func TestP35_2Mask(t *testing.T) {
	all := triangle(0, 0, end, 0, 0, end)
	for _, c := range []struct{ x, y, n, want int }{
		{0, 0, 1, 1}, {0, 0, 2, 3}, {0, 0, 4, 15}, {0, 0, 8, 255}, {0, 0, 3, 0}, {63, 63, 8, 0}, {-1, 0, 8, 0}, {0, -1, 8, 0}, {64, 0, 8, 0}, {0, 64, 8, 0}, {smallest, largest, 8, 0}, {1 << 56, 0, 8, 0},
		// The edge from (end, 0) to (0, end) cuts the pixels of the other diagonal.
		{63, 0, 1, 0}, {63, 0, 2, 2}, {63, 0, 4, 5}, {0, 63, 8, 41}, {31, 32, 8, 41},
	} {
		if got := coverage.Mask(all, c.x, c.y, c.n); got != c.want || got != expectedMask(all, c.x, c.y, c.n) {
			t.Errorf("the mask of %d samples of the pixel (%d, %d) is %d, want %d", c.n, c.x, c.y, got, c.want)
		}
	}
	// The example of the chapter, and an edge through samples.
	small := triangle(0, 0, 512, 0, 0, 512)
	if coverage.Mask(small, 0, 0, 1) != 1 || coverage.Mask(small, 1, 1, 1) != 0 || coverage.Mask(triangle(128, 128, 512, 128, 128, 512), 0, 0, 1) != 1 || coverage.Mask(triangle(0, 0, 128, 0, 128, 512), 0, 0, 1) != 0 {
		t.Error("the masks of one sample are wrong")
	}
	s := state(1)
	for range 300 {
		tri := s.triangle(3 * 256)
		for _, n := range counts() {
			for x := -1; x < 4; x++ {
				for y := -1; y < 4; y++ {
					if got, want := coverage.Mask(tri, x, y, n), expectedMask(tri, x, y, n); got != want {
						t.Fatalf("the mask of %d samples of the pixel (%d, %d) of %v is %d, want %d", n, x, y, tri.V, got, want)
					}
				}
			}
		}
	}
	for _, wrong := range []api.Triangle{{}, triangle(0, 0, 0, 512, 512, 0), triangle(0, 0, end+1, 0, 0, end), triangle(-1, 0, 512, 0, 0, 512)} {
		for _, n := range counts() {
			if got := coverage.Mask(wrong, 0, 0, n); got != 0 {
				t.Errorf("the mask of a triangle that is not valid is %d", got)
			}
			if got := coverage.Pixels(wrong, 0, 0, 64, 64, n); len(got) > 0 {
				t.Errorf("the pixels of a triangle that is not valid are %v", got)
			}
		}
	}
}

// checkPixels compares the pixels of a rectangle with the masks of all pixels that there are.
func checkPixels(t *testing.T, tri api.Triangle, x0, y0, width, height, n int) [][3]int {
	t.Helper()
	inside := func(low, size, x int) bool {
		return low <= x && size > 0 && uint(x)-uint(low) < uint(size)
	}
	var want [][3]int
	for y := range 64 {
		for x := range 64 {
			if !inside(x0, width, x) || !inside(y0, height, y) {
				continue
			}
			if mask := expectedMask(tri, x, y, n); mask != 0 {
				want = append(want, [3]int{x, y, mask})
			}
		}
	}
	got := coverage.Pixels(tri, x0, y0, width, height, n)
	if !slices.Equal(got, want) {
		t.Errorf("the pixels of %v in %dx%d pixels at (%d, %d) with %d samples are %v, want %v", tri.V, width, height, x0, y0, n, got, want)
	}
	return got
}

func TestP35_3Pixels(t *testing.T) {
	tri := triangle(300, 200, 1500, 600, 700, 1700)
	if got := checkPixels(t, triangle(0, 0, 512, 0, 0, 512), 0, 0, 64, 64, 4); fmt.Sprint(got) != "[[0 0 15] [1 0 5] [0 1 5]]" {
		t.Errorf("the pixels are %v", got)
	}
	all := checkPixels(t, tri, 0, 0, 64, 64, 8)
	if len(all) < 15 {
		t.Errorf("there are only %d pixels", len(all))
	}
	for _, n := range counts() {
		checkPixels(t, tri, 0, 0, 64, 64, n)
	}
	for _, low := range append(places(), 2, 3, 4, -5, -60, 1-largest, -largest+4) {
		for _, size := range []int{0, 1, 2, 3, 8, 64, 65, -1, 200, largest - 5, largest, smallest, 1 << 32, 1<<32 + 2} {
			checkPixels(t, tri, low, 2, size, 2, 4)
			checkPixels(t, tri, 2, low, 2, size, 4)
		}
	}
	// Triangles at the borders of the screen.
	checkPixels(t, triangle(0, 0, end, 0, 0, end), 0, 0, 64, 64, 2)
	checkPixels(t, triangle(end, end, 0, end, end, 0), 0, 0, 64, 64, 2)
	checkPixels(t, triangle(end-1, end-1, end, end-1, end, end), 0, 0, 64, 64, 8)
	checkPixels(t, triangle(16300, 16000, end, end, 16000, end), 60, 60, 4, 4, 8)
	s := state(2)
	for range 1500 {
		size := []int{600, 4000, end}[s.next(3)]
		checkPixels(t, s.triangle(size), s.next(20)-8, s.next(20)-8, s.next(70), s.next(70), []int{1, 2, 4, 8}[s.next(4)])
	}
}

func TestP35_3Count(t *testing.T) {
	for mask := range 1 << 10 {
		want := 0
		for i := range 8 {
			want += mask >> i % 2
		}
		for _, far := range []int{0, 1 << 8, 1 << 32, 1 << 62, -1 << 8, smallest} {
			if got := coverage.Count(mask + far); got != want {
				t.Errorf("Count(%d) is %d, want %d", mask+far, got, want)
			}
		}
	}
	if coverage.Count(-1) != 8 || coverage.Count(largest) != 8 || coverage.Count(smallest) != 0 {
		t.Error("the count of a great mask is wrong")
	}
	for i, n := range counts() {
		want := 0
		if i < 4 {
			want = []int{1, 3, 15, 255}[i]
		}
		if got := coverage.Full(n); got != want {
			t.Errorf("Full(%d) is %d, want %d", n, got, want)
		}
	}
}

// TestP35_4Square covers a square with two triangles: each sample once.
func TestP35_4Square(t *testing.T) {
	side := 8 * 256
	for i, n := range []int{1, 2, 4, 8} {
		total := 0
		for _, tri := range []api.Triangle{triangle(0, 0, side, 0, side, side), triangle(0, 0, side, side, 0, side)} {
			for _, pixel := range checkPixels(t, tri, 0, 0, 64, 64, n) {
				total += coverage.Count(pixel[2])
			}
		}
		if total != 64<<i {
			t.Errorf("%d samples of 64 pixels with %d each are covered", total, n)
		}
	}
}

// masksOf returns the masks of all pixels of a part of the screen.
func masksOf(tri api.Triangle, size, n int) []int {
	masks := make([]int, size*size)
	for _, pixel := range coverage.Pixels(tri, 0, 0, size, size, n) {
		masks[pixel[1]*size+pixel[0]] = pixel[2]
	}
	return masks
}

// TestP35_4Divided divides triangles by a segment from a vertex to a point of the opposite edge.
func TestP35_4Divided(t *testing.T) {
	s := state(3)
	divided := 0
	for range 4000 {
		a, b := s.point(1000), s.point(1000)
		parts := 2 + s.next(6)
		// The other end of the edge is chosen so that points in it have integer coordinates.
		c := [2]int{b[0] + parts*(s.next(400)-200), b[1] + parts*(s.next(400)-200)}
		k := 1 + s.next(parts-1)
		middle := [2]int{b[0] + (c[0]-b[0])/parts*k, b[1] + (c[1]-b[1])/parts*k}
		whole, valid := clockwise(a, b, c)
		one, first := clockwise(a, b, middle)
		two, second := clockwise(a, middle, c)
		if !valid || !first || !second {
			continue
		}
		divided++
		n := []int{1, 2, 4, 8}[s.next(4)]
		all, left, right := masksOf(whole, 16, n), masksOf(one, 16, n), masksOf(two, 16, n)
		for i, mask := range all {
			if left[i]&right[i] != 0 || left[i]|right[i] != mask {
				t.Fatalf("of pixel %d, %v covers %b, and its parts %v and %v cover %b and %b", i, whole.V, mask, one.V, two.V, left[i], right[i])
			}
		}
	}
	if divided < 1000 {
		t.Errorf("only %d triangles were divided", divided)
	}
}

// TestP35_4Fan covers a polygon with triangles around a point in it: each sample once, also where many edges meet in a sample.
func TestP35_4Fan(t *testing.T) {
	s := state(4)
	for range 400 {
		size := 1024
		corners := [][2]int{{0, 0}, {s.next(size), 0}, {size, 0}, {size, s.next(size)}, {size, size}, {s.next(size), size}, {0, size}, {0, s.next(size)}}
		center := [2]int{1 + s.next(size-1), 1 + s.next(size-1)}
		if s.next(2) == 0 {
			center = [2]int{16 * (1 + s.next(size/16-1)), 16 * (1 + s.next(size/16-1))}
		}
		n := []int{1, 2, 4, 8}[s.next(4)]
		seen := make([]int, 16)
		for i, a := range corners {
			b := corners[(i+1)%len(corners)]
			tri, valid := clockwise(center, a, b)
			if !valid {
				continue
			}
			for k, mask := range masksOf(tri, 4, n) {
				if seen[k]&mask != 0 {
					t.Fatalf("samples %b of pixel %d are covered twice around %v", seen[k]&mask, k, center)
				}
				seen[k] |= mask
			}
		}
		for k, mask := range seen {
			if mask != coverage.Full(n) {
				t.Fatalf("of pixel %d only the samples %b are covered around %v", k, mask, center)
			}
		}
	}
}

// TestP35_3Memory changes results, which share no memory.
func TestP35_3Memory(t *testing.T) {
	tri := triangle(0, 0, 512, 0, 0, 512)
	pixels := coverage.Pixels(tri, 0, 0, 64, 64, 1)
	text := fmt.Sprint(pixels)
	clear(pixels[:cap(pixels)])
	if again := coverage.Pixels(tri, 0, 0, 64, 64, 1); fmt.Sprint(again) != text {
		t.Error("the results of Pixels share memory")
	}
}
