package fetch

import (
	"slices"
	"testing"

	"frustum/api"
	"frustum/buffer"
)

const one = api.One

// componentsOf returns the number of components of each format, from 1 on.
func componentsOf(f api.VertexFormat) int {
	return []int{1, 2, 3, 4, 4, 2, 4, 1}[f-1]
}

// bytesOf returns the number of bytes of an attribute of each format, from 1 on.
func bytesOf(f api.VertexFormat) int {
	return []int{4, 8, 12, 16, 4, 4, 8, 4}[f-1]
}

// formats returns the eight formats.
func formats() []api.VertexFormat {
	return []api.VertexFormat{api.Fixed1, api.Fixed2, api.Fixed3, api.Fixed4, api.UNorm8x4, api.Half2, api.Half4, api.Int1}
}

// ordinary returns a valid attribute, which differs with the number and reads from the first bytes of its buffer.
func ordinary(n int) api.Attribute {
	return api.Attribute{Buffer: n % 4, Offset: n % 5, Stride: n%3 + 9, Format: formats()[n%8]}
}

// ordinaries returns so many valid attributes.
func ordinaries(count int) []api.Attribute {
	var result []api.Attribute
	for n := range count {
		result = append(result, ordinary(n))
	}
	return result
}

// extremes returns valid attributes with fields at both ends of their ranges.
func extremes() []api.Attribute {
	var result []api.Attribute
	for _, f := range formats() {
		for bits := range 8 {
			result = append(result, api.Attribute{Buffer: 3 * (bits & 1), Offset: 4096 * (bits >> 1 & 1), Stride: 256 * (bits >> 2), Format: f})
		}
	}
	return result
}

// brokenAttributes returns attributes of which one field alone is beyond its range, and some of which all are.
func brokenAttributes() []api.Attribute {
	result := []api.Attribute{{}, {Buffer: -1, Offset: -1, Stride: -1, Format: -1}, {Buffer: 4, Offset: 4097, Stride: 257, Format: 9}, {Buffer: largest, Offset: largest, Stride: largest, Format: largest}, {Buffer: smallest, Offset: smallest, Stride: smallest, Format: smallest}}
	for _, f := range formats() {
		for _, x := range []int{-1, -2, largest, smallest, 1 << 32, 1<<32 + 1, -1 << 32} {
			result = append(result, api.Attribute{Buffer: x, Stride: 4, Format: f}, api.Attribute{Offset: x, Stride: 4, Format: f}, api.Attribute{Stride: x, Format: f})
		}
		for _, far := range []api.VertexFormat{1 << 8, 1 << 32, 1 << 62, -1 << 8, -1 << 32} {
			result = append(result, api.Attribute{Stride: 4, Format: f + far})
		}
		result = append(result, api.Attribute{Buffer: 4, Stride: 4, Format: f}, api.Attribute{Offset: 4097, Stride: 4, Format: f}, api.Attribute{Stride: 257, Format: f})
	}
	for _, f := range []api.VertexFormat{0, 9, 10, -1, largest, smallest} {
		result = append(result, api.Attribute{Stride: 4, Format: f})
	}
	return result
}

// totalOf returns the number of components of attributes, of which those with unknown formats have none.
func totalOf(attributes []api.Attribute) int {
	sum := 0
	for _, a := range attributes {
		if 1 <= a.Format && a.Format <= 8 {
			sum += componentsOf(a.Format)
		}
	}
	return sum
}

// checkAttributes checks Components and Valid, and that Vertex of attributes that are not valid is nil.
func checkAttributes(t *testing.T, attributes []api.Attribute, valid bool) {
	t.Helper()
	unchanged := watch(t, attributes)
	if got, want := Components(attributes), totalOf(attributes); got != want {
		t.Errorf("%+v have %d components, want %d", attributes, got, want)
	}
	if got := Valid(attributes); got != valid {
		t.Errorf("whether %+v are valid: %t", attributes, got)
	}
	if !valid {
		for _, vertex := range []int{0, 1, -1, largest, smallest} {
			if got := Vertex(attributes, [][]byte{made(50, 1), made(50, 2), made(50, 3), made(50, 4), made(50, 5)}, vertex); got != nil {
				t.Errorf("vertex %d of %+v, which are not valid, is %v", vertex, attributes, got)
			}
		}
	}
	unchanged("Components, Valid or Vertex")
}

func TestP15_3Counts(t *testing.T) {
	checkAttributes(t, nil, true)
	checkAttributes(t, []api.Attribute{}, true)
	for _, f := range formats() {
		for count := range 20 {
			// With at most MaxAttributes attributes of at most 4 components, the total does not exceed MaxComponents.
			checkAttributes(t, slices.Repeat([]api.Attribute{{Format: f}}, count), count <= 8)
		}
	}
	for count := range 20 {
		checkAttributes(t, ordinaries(count), count <= 8)
	}
	for _, c := range []struct {
		formats []api.VertexFormat
		total   int
		valid   bool
	}{
		{nil, 0, true}, {[]api.VertexFormat{8}, 1, true}, {[]api.VertexFormat{1, 2, 3, 4, 5, 6, 7, 8}, 21, true}, {[]api.VertexFormat{4, 4, 4, 4, 4, 4, 4, 3}, 31, true}, {[]api.VertexFormat{4, 4, 4, 4, 4, 4, 4, 4}, 32, true}, {[]api.VertexFormat{4, 5, 7, 4, 5, 7, 4, 5}, 32, true},
		{[]api.VertexFormat{4, 4, 4, 4, 4, 4, 4, 4, 1}, 33, false}, {[]api.VertexFormat{4, 4, 4, 4, 4, 4, 4, 3, 1}, 32, false}, {[]api.VertexFormat{1, 1, 1, 1, 1, 1, 1, 1, 1}, 9, false}, {[]api.VertexFormat{1, 1, 1, 1, 1, 1, 1, 1, 0}, 8, false}, {[]api.VertexFormat{0}, 0, false}, {[]api.VertexFormat{9, 4}, 4, false}, {[]api.VertexFormat{4, -1, 3}, 7, false},
	} {
		var attributes []api.Attribute
		for _, f := range c.formats {
			attributes = append(attributes, api.Attribute{Format: f})
		}
		if got := Components(attributes); got != c.total {
			t.Errorf("the formats %v have %d components, want %d", c.formats, got, c.total)
		}
		checkAttributes(t, attributes, c.valid)
	}
	// Components counts those of any list, also of one that is not valid.
	many := slices.Repeat([]api.Attribute{{Format: api.Fixed4}, {Buffer: -1, Format: api.Fixed3}, {Format: 0}}, 1000)
	if got := Components(many); got != 7000 {
		t.Errorf("many attributes have %d components", got)
	}
}

// TestP15_3Fields puts attributes with fields at and beyond the ends of their ranges at each place of a list.
func TestP15_3Fields(t *testing.T) {
	for length := 1; length <= 8; length++ {
		for at := range length {
			for _, a := range extremes() {
				list := ordinaries(length)
				list[at] = a
				checkAttributes(t, list, true)
			}
			for _, a := range brokenAttributes() {
				list := ordinaries(length)
				list[at] = a
				checkAttributes(t, list, false)
			}
		}
	}
}

// expectedVertex returns the components of all attributes, each loaded from its buffer if there is one, and zeros otherwise.
func expectedVertex(attributes []api.Attribute, buffers [][]byte, vertex int) []int {
	var result []int
	for _, a := range attributes {
		components := make([]int, componentsOf(a.Format))
		if a.Buffer < len(buffers) {
			components = buffer.LoadAttribute(buffers[a.Buffer], a, vertex)
		}
		result = append(result, components...)
	}
	return result
}

// checkVertex checks the components of a vertex, and that the memory of results is their own.
func checkVertex(t *testing.T, attributes []api.Attribute, buffers [][]byte, vertex int, want []int) {
	t.Helper()
	unchanged := []func(string){watch(t, attributes)}
	for _, b := range buffers {
		unchanged = append(unchanged, watch(t, b))
	}
	first, second := Vertex(attributes, buffers, vertex), Vertex(attributes, buffers, vertex)
	if !slices.Equal(first, want) {
		t.Errorf("vertex %d of %+v in %d buffers is %v, want %v", vertex, attributes, len(buffers), first, want)
	}
	spoil(first)
	if !slices.Equal(second, want) {
		t.Error("results of Vertex share memory")
	}
	for _, check := range unchanged {
		check("Vertex")
	}
}

func TestP15_3Examples(t *testing.T) {
	points := []byte{0, 0, 1, 0, 255, 255, 255, 255, 0, 0, 2, 0, 0, 128, 0, 0}
	colors := []byte{255, 0, 51, 128, 0, 60, 0, 192}
	numbers := []byte{7, 0, 0, 0, 254, 255, 255, 255, 9, 0}
	point, color := api.Attribute{Stride: 8, Format: api.Fixed2}, api.Attribute{Buffer: 1, Stride: 4, Format: api.UNorm8x4}
	half, number := api.Attribute{Buffer: 1, Offset: 4, Format: api.Half2}, api.Attribute{Buffer: 2, Stride: 4, Format: api.Int1}
	beyond := api.Attribute{Buffer: 3, Stride: 4, Format: api.Fixed3}
	all, three := []api.Attribute{point, color, half, number}, [][]byte{points, colors, numbers}
	for _, c := range []struct {
		attributes []api.Attribute
		buffers    [][]byte
		vertex     int
		want       []int
	}{
		{all, three, 0, []int{one, -1, one, 0, 13107, 32897, one, -2 * one, 7}}, {all, three, 1, []int{2 * one, one / 2, 0, 15420, 0, 49345, one, -2 * one, -2}}, {all, three, 2, []int{0, 0, 0, 0, 0, 0, one, -2 * one, 0}}, {all, three, -1, make([]int, 9)}, {all, three, smallest, make([]int, 9)}, {all, three, largest, make([]int, 9)},
		{[]api.Attribute{number, point}, three, 1, []int{-2, 2 * one, one / 2}}, {[]api.Attribute{half, half}, three, 65536, []int{one, -2 * one, one, -2 * one}}, {[]api.Attribute{half, half}, three, 65537, []int{0, 0, 0, 0}}, {[]api.Attribute{point, beyond, number}, three, 0, []int{one, -1, 0, 0, 0, 7}},
		{[]api.Attribute{point, color, number}, [][]byte{points, nil, numbers}, 0, []int{one, -1, 0, 0, 0, 0, 7}}, {[]api.Attribute{point, color, number}, [][]byte{points}, 0, []int{one, -1, 0, 0, 0, 0, 0}}, {[]api.Attribute{point, color}, nil, 0, make([]int, 6)}, {[]api.Attribute{point, color}, [][]byte{}, 0, make([]int, 6)}, {[]api.Attribute{point, color}, [][]byte{points[:7], colors[:4]}, 0, []int{0, 0, one, 0, 13107, 32897}},
		{nil, three, 0, nil}, {[]api.Attribute{}, nil, -1, nil}, {[]api.Attribute{point, {}}, three, 0, nil}, {[]api.Attribute{{Buffer: 4, Format: api.Fixed1}, point}, [][]byte{points, points, points, points, points}, 0, nil}, {slices.Repeat(all, 3), three, 0, nil},
	} {
		checkVertex(t, c.attributes, c.buffers, c.vertex, c.want)
	}
}

// TestP15_3Vertex loads vertices at both ends of buffers, with buffers that do not exist, are nil, or end before the last vertex does.
func TestP15_3Vertex(t *testing.T) {
	full := [][]byte{made(100, 1), made(90, 2), made(110, 3), made(95, 4), made(99, 5)}
	sets := [][][]byte{nil, {}, full, full[:4], full[:3], full[:2], full[:1], {full[0], nil, full[2], nil}, {nil, full[1], {}, full[3]}, {nil, nil, nil, nil}, {full[0][:1], full[1][:20], full[2][:27], full[3][:14]}}
	for count := range 9 {
		for turn := range 8 {
			var attributes []api.Attribute
			for n := range count {
				attributes = append(attributes, ordinary(n*3+turn))
			}
			for _, buffers := range sets {
				for _, vertex := range []int{0, 1, 2, 6, 7, 8, 9, 10, 11, 12, 65535, 65536, 65537, -1, -2, smallest, smallest + 1, largest, largest - 1, 1 << 32, 1<<32 + 1, -1 << 32, 1 << 62, 1 << 63 / 9} {
					checkVertex(t, attributes, buffers, vertex, expectedVertex(attributes, buffers, vertex))
				}
			}
		}
	}
}

// TestP15_3Last loads the last vertex of a buffer that ends behind it, and that of one that ends a byte before, among attributes that have no such end.
func TestP15_3Last(t *testing.T) {
	for _, f := range formats() {
		for _, a := range extremes() {
			last := api.Attribute{Buffer: 1, Offset: a.Offset, Stride: a.Stride, Format: f}
			fixed := api.Attribute{Buffer: 2, Format: api.Fixed1}
			for _, vertex := range []int{0, 1, 7} {
				end := last.Offset + vertex*last.Stride + bytesOf(f)
				for _, length := range []int{end, end - 1, end + 1} {
					buffers := [][]byte{nil, made(length, uint64(vertex)), {1, 0, 0, 0}}
					attributes := []api.Attribute{fixed, last, fixed}
					want := slices.Concat([]int{1}, buffer.LoadAttribute(buffers[1], last, vertex), []int{1})
					if length < end {
						want = slices.Concat([]int{1}, make([]int, componentsOf(f)), []int{1})
					}
					checkVertex(t, attributes, buffers, vertex, want)
				}
			}
		}
	}
}
