package binning_test

import (
	"fmt"
	"math"
	"slices"
	"testing"

	"frustum/api"
	"frustum/binning"
	"frustum/coverage"
	"frustum/edge"
)

const (
	end      = api.MaxScreen
	largest  = math.MaxInt
	smallest = math.MinInt
)

// sides returns sizes at both ends of those that images have, and beyond them.
func sides() []int {
	return []int{1, 2, 7, 8, 9, 15, 16, 17, 31, 32, 33, 55, 56, 57, 63, 64, 65, 72, 0, -1, -7, -8, -64, 1 << 32, 1<<32 + 8, largest, largest - 6, smallest, smallest + 8}
}

// triangle returns a triangle whose vertices have these coordinates.
func triangle(x0, y0, x1, y1, x2, y2 int) api.Triangle {
	return api.Triangle{V: [3]api.ScreenVertex{{X: x0, Y: y0}, {X: x1, Y: y1, Varyings: []int{5}}, {X: x2, Y: y2}}}
}

// state makes arbitrary triangles.
type state uint64

func (s *state) next(beyond int) int {
	*s = *s*6364136223846793005 + 1442695040888963407
	return int(*s>>33) % beyond
}

// coordinate returns a coordinate, often one at the border of a tile or next to it.
func (s *state) coordinate() int {
	switch s.next(10) {
	case 0:
		return []int{-1, end + 1, smallest, largest}[s.next(4)]
	case 1, 2, 3, 4:
		return min(max(0, 2048*s.next(9)-1+s.next(3)), end)
	}
	return s.next(end + 1)
}

// triangle returns an arbitrary triangle, which is mostly valid, and often small.
func (s *state) triangle() api.Triangle {
	x, y := s.coordinate(), s.coordinate()
	if s.next(2) == 0 && x > 0 && y > 0 && x <= end && y <= end {
		dx, dy := s.next(600), s.next(600)
		return triangle(x, y, min(end, x+dx), y, x, min(end, y+dy))
	}
	tri := triangle(x, y, s.coordinate(), s.coordinate(), s.coordinate(), s.coordinate())
	if !edge.Valid(tri) {
		tri.V[1], tri.V[2] = tri.V[2], tri.V[1]
	}
	return tri
}

// tile is a rectangle of pixels.
type tile struct{ x, y, width, height int }

// expectedTiles returns the tiles of an image, row by row.
func expectedTiles(width, height int) []tile {
	if width < 1 || width > 64 || height < 1 || height > 64 {
		return nil
	}
	var list []tile
	for y := 0; y < height; y += 8 {
		for x := 0; x < width; x += 8 {
			one := tile{x: x, y: y}
			for one.width < 8 && x+one.width < width {
				one.width++
			}
			for one.height < 8 && y+one.height < height {
				one.height++
			}
			list = append(list, one)
		}
	}
	return list
}

// expectedTouches compares the least and greatest coordinates of a triangle with a tile.
func expectedTouches(t api.Triangle, one tile) bool {
	var xs, ys []int
	for _, v := range t.V {
		xs, ys = append(xs, v.X), append(ys, v.Y)
	}
	return edge.Valid(t) && slices.Min(xs) <= 256*(one.x+one.width) && slices.Max(xs) >= 256*one.x && slices.Min(ys) <= 256*(one.y+one.height) && slices.Max(ys) >= 256*one.y
}

func TestP36_1Example(t *testing.T) {
	if columns, rows := binning.Grid(20, 9); columns != 3 || rows != 2 || binning.Tiles(20, 9) != 6 {
		t.Errorf("an image of 20x9 pixels has %d columns and %d rows", columns, rows)
	}
	for i, want := range []tile{{0, 0, 8, 8}, {8, 0, 8, 8}, {16, 0, 4, 8}, {0, 8, 8, 1}, {8, 8, 8, 1}, {16, 8, 4, 1}, {}} {
		x, y, width, height := binning.TileRect(20, 9, i)
		if got := (tile{x, y, width, height}); got != want {
			t.Errorf("tile %d is %v, want %v", i, got, want)
		}
	}
	for _, c := range [][3]int{{0, 0, 0}, {7, 7, 0}, {8, 7, 1}, {16, 0, 2}, {19, 7, 2}, {0, 8, 3}, {19, 8, 5}, {20, 8, -1}, {19, 9, -1}, {-1, 0, -1}, {0, -1, -1}} {
		if got := binning.TileOf(20, 9, c[0], c[1]); got != c[2] {
			t.Errorf("the pixel (%d, %d) is in tile %d, want %d", c[0], c[1], got, c[2])
		}
	}
}

// checkGrid compares Grid, Tiles and TileRect with the tiles of an image.
func checkGrid(t *testing.T, width, height int) {
	t.Helper()
	want := expectedTiles(width, height)
	columns, rows := 0, 0
	for _, one := range want {
		if one.y == 0 {
			columns++
		}
		if one.x == 0 {
			rows++
		}
	}
	if gotColumns, gotRows := binning.Grid(width, height); gotColumns != columns || gotRows != rows {
		t.Errorf("an image of %dx%d pixels has %d columns and %d rows, want %d and %d", width, height, gotColumns, gotRows, columns, rows)
	}
	if got := binning.Tiles(width, height); got != len(want) {
		t.Errorf("an image of %dx%d pixels has %d tiles, want %d", width, height, got, len(want))
	}
	for _, i := range append(sides(), 3, 4, 5, 6, len(want)-1, len(want), len(want)+1) {
		one := tile{}
		if i >= 0 && i < len(want) {
			one = want[i]
		}
		x, y, w, h := binning.TileRect(width, height, i)
		if got := (tile{x, y, w, h}); got != one {
			t.Errorf("tile %d of %dx%d pixels is %v, want %v", i, width, height, got, one)
		}
	}
}

func TestP36_1Grid(t *testing.T) {
	for width := range 67 {
		for height := range 67 {
			checkGrid(t, width, height)
		}
	}
	for _, width := range sides() {
		for _, height := range sides() {
			checkGrid(t, width, height)
		}
	}
}

// TestP36_3Pixels shows that each pixel belongs to exactly one tile.
func TestP36_3Pixels(t *testing.T) {
	for _, width := range sides() {
		for _, height := range sides() {
			list := expectedTiles(width, height)
			for _, x := range sides() {
				for _, y := range sides() {
					want := -1
					for i, one := range list {
						if one.x <= x && x < one.x+one.width && one.y <= y && y < one.y+one.height {
							want = i
						}
					}
					if got := binning.TileOf(width, height, x, y); got != want {
						t.Errorf("the pixel (%d, %d) of %dx%d is in tile %d, want %d", x, y, width, height, got, want)
					}
				}
			}
		}
	}
	counts := make([]int, 15)
	for y := range 20 {
		for x := range 37 {
			counts[binning.TileOf(37, 20, x, y)]++
		}
	}
	if !slices.Equal(counts, []int{64, 64, 64, 64, 40, 64, 64, 64, 64, 40, 32, 32, 32, 32, 20}) {
		t.Errorf("the tiles have %v pixels", counts)
	}
}

func TestP36_2Touches(t *testing.T) {
	// Triangles next to the corners of the tile from (2048, 2048) to (4096, 4096), which is tile 9 of 64.
	for _, c := range []struct {
		tri  api.Triangle
		want bool
	}{
		{triangle(3000, 3000, 3100, 3000, 3000, 3100), true}, {triangle(0, 0, end, 0, 0, end), true}, {triangle(0, 0, 2048, 0, 2048, 2048), true}, {triangle(0, 0, 2047, 0, 0, 4000), false}, {triangle(0, 0, 4000, 0, 0, 2047), false}, {triangle(0, 0, 2048, 0, 0, 2048), true}, {triangle(4096, 4096, 5000, 4096, 4096, 5000), true}, {triangle(4097, 3000, 5000, 3000, 4097, 4000), false}, {triangle(3000, 4097, 4000, 4097, 3000, 5000), false}, {triangle(4096, 0, 5000, 0, 4096, 2048), true},
		// The bounding box counts, not the triangle itself.
		{triangle(0, 0, 6000, 0, 0, 2048), true}, {triangle(4096, 0, 9000, 0, 9000, 9000), true}, {triangle(0, 4000, 0, 0, 4000, 0), true},
		// Triangles that are not valid.
		{triangle(3000, 3000, 3000, 3100, 3100, 3000), false}, {triangle(3000, 3000, 3050, 3050, 3100, 3100), false}, {triangle(0, 0, end+1, 0, 0, end), false}, {triangle(-1, 0, end, 0, 0, end), false}, {api.Triangle{}, false}, {triangle(smallest, smallest, largest, smallest, smallest, largest), false},
	} {
		if got := binning.Touches(c.tri, 64, 64, 9); got != c.want || got != expectedTouches(c.tri, tile{8, 8, 8, 8}) {
			t.Errorf("%v touches the tile: %t", c.tri.V, got)
		}
	}
	all := triangle(0, 0, end, 0, 0, end)
	for _, wrong := range [][3]int{{64, 64, -1}, {64, 64, 64}, {0, 64, 0}, {64, 0, 0}, {65, 64, 0}, {64, 65, 0}, {-1, -1, 0}, {64, 64, largest}, {64, 64, smallest}, {largest, largest, 0}, {20, 9, 6}, {64, 64, 1 << 32}} {
		if binning.Touches(all, wrong[0], wrong[1], wrong[2]) {
			t.Errorf("tile %d of %dx%d pixels is touched", wrong[2], wrong[0], wrong[1])
		}
	}
	// A tile that is cut off at the image.
	for x, want := range map[int]bool{1024: true, 1280: true, 1281: false, 2048: false} {
		if got := binning.Touches(triangle(x, 0, x+500, 0, x, 500), 5, 64, 0); got != want {
			t.Errorf("a triangle from %d on touches a tile of 5 pixels: %t", x, got)
		}
		if got := binning.Touches(triangle(0, x, 500, x, 0, x+500), 64, 5, 0); got != want {
			t.Errorf("a triangle from %d on touches a tile of 5 rows: %t", x, got)
		}
	}
}

// TestP36_2Bins compares Bins and Touches with the second reading, for arbitrary triangles and images.
func TestP36_2Bins(t *testing.T) {
	s := state(1)
	touched := 0
	for range 400 {
		width, height := 1+s.next(64), 1+s.next(64)
		triangles := make([]api.Triangle, s.next(12))
		for i := range triangles {
			triangles[i] = s.triangle()
		}
		text := fmt.Sprint(triangles)
		list := expectedTiles(width, height)
		want := make([][]int, len(list))
		for k, one := range list {
			for i, tri := range triangles {
				if expectedTouches(tri, one) {
					want[k] = append(want[k], i)
					touched++
				}
				if got := binning.Touches(tri, width, height, k); got != expectedTouches(tri, one) {
					t.Fatalf("%v touches tile %d of %dx%d pixels: %t", tri.V, k, width, height, got)
				}
			}
		}
		got := binning.Bins(triangles, width, height)
		if !slices.EqualFunc(got, want, slices.Equal) {
			t.Fatalf("the bins of %v in %dx%d pixels are %v, want %v", triangles, width, height, got, want)
		}
		for _, bin := range got {
			clear(bin[:cap(bin)])
		}
		if again := binning.Bins(triangles, width, height); !slices.EqualFunc(again, want, slices.Equal) || fmt.Sprint(triangles) != text {
			t.Fatal("Bins changed its argument, or results share memory")
		}
	}
	if touched < 5000 {
		t.Errorf("only %d tiles are touched", touched)
	}
	for _, triangles := range [][]api.Triangle{nil, {}, {{}}} {
		if got := binning.Bins(triangles, 20, 9); len(got) != 6 || slices.ContainsFunc(got, func(bin []int) bool { return len(bin) > 0 }) {
			t.Errorf("the bins of %v are %v", triangles, got)
		}
	}
	for _, size := range [][2]int{{0, 64}, {64, 0}, {65, 1}, {1, 65}, {-1, -1}, {largest, largest}, {smallest, 8}} {
		if got := binning.Bins([]api.Triangle{triangle(0, 0, end, 0, 0, end)}, size[0], size[1]); len(got) > 0 {
			t.Errorf("the bins of %dx%d pixels are %v", size[0], size[1], got)
		}
	}
	if got := binning.Bins(slices.Repeat([]api.Triangle{triangle(0, 0, end, 0, 0, end)}, 3000), 9, 1); len(got) != 2 || len(got[0]) != 3000 || len(got[1]) != 3000 || got[1][2999] != 2999 {
		t.Error("the bins of many triangles are wrong")
	}
}

// TestP36_3Covered shows that a triangle touches the tile of each pixel of which it covers samples.
func TestP36_3Covered(t *testing.T) {
	s := state(2)
	pixels := 0
	for range 1500 {
		tri, width, height := s.triangle(), 1+s.next(64), 1+s.next(64)
		bins := binning.Bins([]api.Triangle{tri}, width, height)
		for _, pixel := range coverage.Pixels(tri, 0, 0, width, height, []int{1, 2, 4, 8}[s.next(4)]) {
			pixels++
			if at := binning.TileOf(width, height, pixel[0], pixel[1]); len(bins[at]) != 1 {
				t.Fatalf("%v covers samples of the pixel (%d, %d), but does not touch tile %d", tri.V, pixel[0], pixel[1], at)
			}
		}
	}
	if pixels < 20000 {
		t.Errorf("only %d pixels are covered", pixels)
	}
}
