package assemble

import (
	"math"
	"math/big"
	"slices"
	"testing"

	"frustum/api"
)

const (
	largest  = math.MaxInt
	smallest = math.MinInt
	// spare is the number of items behind the lists of the tests.
	spare = 8
)

func topologies() []api.Topology {
	return []api.Topology{api.TriangleList, api.TriangleStrip, api.TriangleFan}
}

// noTopologies returns numbers that are no topologies, some of which look like one if bits are dropped.
func noTopologies() []api.Topology {
	result := []api.Topology{0, 4, 5, 6, 7, -1, -2, -3, largest, largest - 1, smallest, smallest + 1, smallest + 2, smallest + 3}
	for _, t := range topologies() {
		result = append(result, t+1<<8, t+1<<32, t+1<<62, t-1<<8, t-1<<32)
	}
	return result
}

// roomy returns a copy of a list with other items behind it.
func roomy(list []int) []int {
	room := make([]int, len(list)+spare)
	for i := range room {
		room[i] = i%3*10 - 7
	}
	copy(room, list)
	return room[:len(list)]
}

// watch returns a function that checks that a list, and what lies behind it, are as they were.
func watch[T comparable](t *testing.T, list []T) func(name string) {
	before := slices.Clone(list[:cap(list)])
	return func(name string) {
		t.Helper()
		if !slices.Equal(list[:cap(list)], before) {
			t.Errorf("%s changed its list, or shares memory with it", name)
		}
	}
}

// spoil overwrites all the memory of a list.
func spoil[T any](list []T, with T) {
	list = list[:cap(list)]
	for i := range list {
		list[i] = with
	}
}

// lists returns all lists of a length with these numbers.
func lists(length int, values []int) [][]int {
	result := [][]int{{}}
	for range length {
		var longer [][]int
		for _, list := range result {
			for _, x := range values {
				longer = append(longer, append(slices.Clone(list), x))
			}
		}
		result = longer
	}
	return result
}

func TestP16_1Valid(t *testing.T) {
	for i, topology := range topologies() {
		if !Valid(topology) || int(topology) != i+1 {
			t.Errorf("the topology %d is not valid", topology)
		}
	}
	for _, unknown := range noTopologies() {
		if Valid(unknown) {
			t.Errorf("%d, which is no topology, is valid", unknown)
		}
	}
}

// isSame reports whether two lists of runs are equal.
func isSame(a, b [][]int) bool {
	return slices.EqualFunc(a, b, slices.Equal[[]int])
}

// expectedRuns returns the parts of a list that contain no negative number and are enclosed by such numbers or the ends of the list.
func expectedRuns(indices []int) [][]int {
	var result [][]int
	for first := range indices {
		for last := first; last < len(indices); last++ {
			begins, ends := first == 0 || indices[first-1] < 0, last == len(indices)-1 || indices[last+1] < 0
			if begins && ends && slices.Min(indices[first:last+1]) >= 0 {
				result = append(result, indices[first:last+1])
			}
		}
	}
	return result
}

// checkRuns checks the runs, and that the memory of results and of each of their runs is their own.
func checkRuns(t *testing.T, list []int, want [][]int) {
	t.Helper()
	indices := roomy(list)
	unchanged := watch(t, indices)
	first, second := Runs(indices), Runs(indices)
	if !isSame(first, want) {
		t.Errorf("the runs of %v are %v, want %v", indices, first, want)
		return
	}
	for i, run := range first {
		spoil(run, -99)
		for j, other := range first[i+1:] {
			if !slices.Equal(other, want[i+1+j]) {
				t.Errorf("runs of %v share memory", indices)
			}
		}
	}
	spoil(first, nil)
	if !isSame(second, want) {
		t.Errorf("results of Runs share memory")
	}
	unchanged("Runs")
}

func TestP16_1Runs(t *testing.T) {
	for _, c := range []struct {
		indices []int
		want    [][]int
	}{
		{nil, nil}, {[]int{}, nil}, {[]int{0}, [][]int{{0}}}, {[]int{7}, [][]int{{7}}}, {[]int{-1}, nil}, {[]int{-1, -1, -1}, nil}, {[]int{-5, smallest, -1}, nil}, {[]int{1, 2, 3}, [][]int{{1, 2, 3}}}, {[]int{1, 2, -1, 3}, [][]int{{1, 2}, {3}}}, {[]int{-1, 1, 2}, [][]int{{1, 2}}}, {[]int{1, 2, -1}, [][]int{{1, 2}}},
		{[]int{-1, -2, 4, 5, 6, -1, -1, -3, 7, -1}, [][]int{{4, 5, 6}, {7}}}, {[]int{0, -1, 0, -1, 0}, [][]int{{0}, {0}, {0}}}, {[]int{largest, -1, 0, largest}, [][]int{{largest}, {0, largest}}}, {[]int{0, smallest, largest}, [][]int{{0}, {largest}}}, {[]int{5, 5, -7, 5, 5}, [][]int{{5, 5}, {5, 5}}}, {[]int{0, -1, -1, 0}, [][]int{{0}, {0}}},
		{[]int{1 << 31, 1<<32 - 1, 1 << 62, -1 << 32, 3}, [][]int{{1 << 31, 1<<32 - 1, 1 << 62}, {3}}},
	} {
		checkRuns(t, c.indices, c.want)
	}
	for length := range 8 {
		for _, indices := range lists(length, []int{0, largest, -1, smallest}) {
			if length < 6 || indices[0] != largest {
				checkRuns(t, indices, expectedRuns(indices))
			}
		}
	}
	var long []int
	for i := range 300 {
		long = append(long, i*7%11-2)
	}
	checkRuns(t, long, expectedRuns(long))
}

// expectedTriangles returns the places of the triangles of a run of at most 8 vertices, as the chapter names them.
func expectedTriangles(topology api.Topology, length int) [][3]int {
	var all [][3]int
	switch topology {
	case api.TriangleList:
		all = [][3]int{{0, 1, 2}, {3, 4, 5}}
	case api.TriangleStrip:
		all = [][3]int{{0, 1, 2}, {1, 3, 2}, {2, 3, 4}, {3, 5, 4}, {4, 5, 6}, {5, 7, 6}}
	case api.TriangleFan:
		all = [][3]int{{0, 1, 2}, {0, 2, 3}, {0, 3, 4}, {0, 4, 5}, {0, 5, 6}, {0, 6, 7}}
	}
	// A run has the triangles whose places it has.
	return slices.DeleteFunc(all, func(places [3]int) bool { return max(places[0], places[1], places[2]) >= length })
}

func TestP16_2Count(t *testing.T) {
	for topology, counts := range map[api.Topology][]int{api.TriangleList: {0, 0, 0, 0, 0, 1, 1, 1, 2, 2, 2, 3}, api.TriangleStrip: {0, 0, 0, 0, 0, 1, 2, 3, 4, 5, 6, 7}, api.TriangleFan: {0, 0, 0, 0, 0, 1, 2, 3, 4, 5, 6, 7}} {
		for i, want := range counts {
			if got := Count(topology, i-2); got != want {
				t.Errorf("%d vertices have %d triangles with topology %d, want %d", i-2, got, topology, want)
			}
		}
	}
	for _, n := range []int{9, 10, 11, 1023, 1024, 1025, 1 << 31, 1 << 32, 1<<32 + 1, 1 << 62, largest - 2, largest - 1, largest} {
		if got := Count(api.TriangleList, n); got != (n-n%3)/3 {
			t.Errorf("%d vertices have %d triangles in a list", n, got)
		}
		if strip, fan := Count(api.TriangleStrip, n), Count(api.TriangleFan, n); strip != n-2 || fan != n-2 {
			t.Errorf("%d vertices have %d triangles in a strip and %d in a fan", n, strip, fan)
		}
	}
	for _, n := range []int{-1, -2, -3, -6, -1 << 31, -1 << 32, -1 << 62, smallest, smallest + 1, smallest + 2} {
		for _, topology := range topologies() {
			if got := Count(topology, n); got != 0 {
				t.Errorf("%d vertices have %d triangles with topology %d", n, got, topology)
			}
		}
	}
	for _, unknown := range noTopologies() {
		for _, n := range []int{0, 1, 2, 3, 4, 5, 6, 7, 8, 100, 1 << 62, largest, -1, -2, smallest, smallest + 1} {
			if got := Count(unknown, n); got != 0 {
				t.Errorf("%d vertices have %d triangles with topology %d, which is unknown", n, got, unknown)
			}
		}
	}
}

// places returns the indices of a list with so many elements, those next to it, and others that look like them if a product or a sum with a small number overflows.
func places(count int) []int {
	result := []int{smallest, smallest + 1, smallest + 2, largest, largest - 1, largest - 2, 1 << 62, 1<<62 + 1, -1 << 62, 1 << 32, 1<<32 + 1, -1 << 32, largest/3 + 1, largest/3*2 + 1, largest/3*2 + 2, smallest / 3, 256, 65536}
	for i := -2; i <= count+1; i++ {
		result = append(result, i)
	}
	return result
}

// checkTriangle checks each triangle of a run, those next to them, and the number of all.
func checkTriangle(t *testing.T, topology api.Topology, run []int, want [][3]int) {
	t.Helper()
	unchanged := watch(t, run)
	if got := Count(topology, len(run)); got != len(want) {
		t.Errorf("Count of %v with topology %d is %d, want %d", run, topology, got, len(want))
	}
	for _, i := range places(len(run)) {
		var expected [3]int
		exists := 0 <= i && i < len(want)
		if exists {
			for k, at := range want[i] {
				expected[k] = run[at]
			}
		}
		if got, ok := Triangle(topology, run, i); got != expected || ok != exists {
			t.Errorf("triangle %d of %v with topology %d is %v, %t, want %v", i, run, topology, got, ok, expected)
		}
	}
	unchanged("Triangle")
}

func TestP16_2Triangle(t *testing.T) {
	// The last run has equal and negative numbers, which are vertices like others here.
	for _, vertices := range [][]int{{10, 11, 12, 13, 14, 15, 16, 17}, {5, 0, largest, 3, 1 << 32, 8, 2, 9}, {7, 6, 5, 4, 3, 2, 1, 0}, {4, 4, 4, -1, smallest, 4, 0, 0}} {
		for length := range 9 {
			run := roomy(vertices[:length])
			for _, topology := range topologies() {
				checkTriangle(t, topology, run, expectedTriangles(topology, length))
			}
			for _, unknown := range noTopologies() {
				checkTriangle(t, unknown, run, nil)
			}
		}
	}
	for _, topology := range append(topologies(), noTopologies()...) {
		checkTriangle(t, topology, nil, nil)
	}
}

func TestP16_2Long(t *testing.T) {
	var run []int
	for i := range 1000 {
		run = append(run, i*i)
	}
	var list, strip, fan [][3]int
	for i := 0; i+2 < len(run); i++ {
		if i%3 == 0 {
			list = append(list, [3]int{i, i + 1, i + 2})
		}
		odd := i % 2
		strip = append(strip, [3]int{i, i + 1 + odd, i + 2 - odd})
		fan = append(fan, [3]int{0, i + 1, i + 2})
	}
	checkTriangle(t, api.TriangleList, run, list)
	checkTriangle(t, api.TriangleStrip, run, strip)
	checkTriangle(t, api.TriangleFan, run, fan)
}

func TestP16_3Rotate(t *testing.T) {
	for _, tri := range [][3]int{{4, 5, 6}, {0, 0, 1}, {-1, largest, smallest}, {9, 9, 9}} {
		for _, c := range []struct {
			n    int
			want [3]int
		}{{0, tri}, {1, [3]int{tri[1], tri[2], tri[0]}}, {2, [3]int{tri[2], tri[0], tri[1]}}, {3, tri}, {-1, [3]int{tri[2], tri[0], tri[1]}}, {-2, [3]int{tri[1], tri[2], tri[0]}}, {-3, tri}} {
			if got := Rotate(tri, c.n); got != c.want {
				t.Errorf("%v rotated by %d is %v, want %v", tri, c.n, got, c.want)
			}
		}
		numbers := []int{smallest, smallest + 1, smallest + 2, smallest + 3, largest, largest - 1, largest - 2, largest - 3, 1 << 31, 1 << 32, -1 << 31, -1 << 32, 1 << 62, -1 << 62}
		for n := -7; n <= 7; n++ {
			numbers = append(numbers, n)
		}
		for _, n := range numbers {
			var want [3]int
			for k := range want {
				sum := new(big.Int).Add(big.NewInt(int64(n)), big.NewInt(int64(k)))
				want[k] = tri[sum.Mod(sum, big.NewInt(3)).Int64()]
			}
			if got := Rotate(tri, n); got != want {
				t.Errorf("%v rotated by %d is %v, want %v", tri, n, got, want)
			}
		}
	}
}
