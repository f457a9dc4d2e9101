package assemble

import (
	"slices"
	"testing"

	"frustum/api"
)

// checkTriangles checks the triangles of indices, and that the memory of results is their own.
func checkTriangles(t *testing.T, topology api.Topology, list []int, want [][3]int) {
	t.Helper()
	indices := roomy(list)
	unchanged := watch(t, indices)
	first, second := Triangles(topology, indices), Triangles(topology, indices)
	if !slices.Equal(first, want) {
		t.Errorf("the triangles of %v with topology %d are %v, want %v", indices, topology, first, want)
	}
	spoil(first, [3]int{-9, -9, -9})
	if !slices.Equal(second, want) {
		t.Error("results of Triangles share memory")
	}
	unchanged("Triangles")
}

func TestP16_3Triangles(t *testing.T) {
	list, strip, fan := api.TriangleList, api.TriangleStrip, api.TriangleFan
	for _, c := range []struct {
		t       api.Topology
		indices []int
		want    [][3]int
	}{
		{strip, []int{0, 1, 2, 3}, [][3]int{{0, 1, 2}, {1, 3, 2}}}, {fan, []int{4, 5, 6, 7}, [][3]int{{4, 5, 6}, {4, 6, 7}}}, {list, []int{4, 5, 6, 7}, [][3]int{{4, 5, 6}}}, {list, []int{1, 2, 3, 4, 5, 6}, [][3]int{{1, 2, 3}, {4, 5, 6}}}, {list, nil, nil}, {strip, nil, nil}, {fan, []int{}, nil}, {strip, []int{-1, -1}, nil}, {fan, []int{1, 2}, nil}, {list, []int{1, 2}, nil},
		{list, []int{1, 2, -1, 3, 4, 5, -1, 6}, [][3]int{{3, 4, 5}}}, {list, []int{1, 2, -1, 3, 4, 5, 6}, [][3]int{{3, 4, 5}}}, {list, []int{1, 2, 3, 4, 5, -1, 6, 7, 8}, [][3]int{{1, 2, 3}, {6, 7, 8}}}, {list, []int{-1, 1, 2, 3, -1, -1, 4, 5, 6, -1}, [][3]int{{1, 2, 3}, {4, 5, 6}}},
		{strip, []int{1, 2, 3, 4, -1, 5, 6, 7, 8, 9, -1, 3, 4}, [][3]int{{1, 2, 3}, {2, 4, 3}, {5, 6, 7}, {6, 8, 7}, {7, 8, 9}}}, {strip, []int{1, 2, 3, -1, 4, 5, 6}, [][3]int{{1, 2, 3}, {4, 5, 6}}}, {strip, []int{1, -1, 2, -1, 3}, nil}, {strip, []int{1, 2, -1, 2, 3, 1, 0}, [][3]int{{2, 3, 1}, {3, 0, 1}}},
		{fan, []int{1, 2, 3, 4, -1, 5, 6, 7, 8, 9, -1, 3, 4}, [][3]int{{1, 2, 3}, {1, 3, 4}, {5, 6, 7}, {5, 7, 8}, {5, 8, 9}}}, {fan, []int{8, -1, 9, 8, 7}, [][3]int{{9, 8, 7}}},
		// Triangles with equal vertices are triangles like others.
		{list, []int{1, 1, 1, 2, 2, 3}, [][3]int{{1, 1, 1}, {2, 2, 3}}}, {strip, []int{1, 1, 2, 2, 3}, [][3]int{{1, 1, 2}, {1, 2, 2}, {2, 2, 3}}}, {fan, []int{1, 2, 1, 2}, [][3]int{{1, 2, 1}, {1, 1, 2}}}, {fan, []int{0, largest, 0, smallest, largest, 1, 2}, [][3]int{{0, largest, 0}, {largest, 1, 2}}},
		{0, []int{1, 2, 3, 4}, nil}, {4, []int{1, 2, 3, 4}, nil}, {-1, []int{1, 2, 3, -1, 1, 2, 3}, nil},
	} {
		checkTriangles(t, c.t, c.indices, c.want)
	}
}

// someIndices returns lists of indices with runs of all lengths, short ones among them, and repeated indices.
func someIndices() [][]int {
	result := lists(5, []int{0, 4, 1, -1})
	for _, restarts := range []int{3, 5, 8, 20} {
		for seed := range 30 {
			var indices []int
			for i := range 60 {
				x := (i*i*(seed+3) + i*7 + seed) % 101
				if x%restarts == 0 {
					x = -1 - x
				}
				indices = append(indices, x)
			}
			result = append(result, indices)
		}
	}
	return result
}

func TestP16_3Runs(t *testing.T) {
	for _, indices := range someIndices() {
		for _, topology := range topologies() {
			var want [][3]int
			for _, run := range expectedRuns(indices) {
				for i := range Count(topology, len(run)) {
					triangle, _ := Triangle(topology, run, i)
					want = append(want, triangle)
				}
			}
			checkTriangles(t, topology, indices, want)
		}
	}
	for _, unknown := range noTopologies() {
		checkTriangles(t, unknown, []int{1, 2, 3, 4, 5, 6, -1, 1, 2, 3}, nil)
	}
}

// expectedEdges returns the pairs of vertices that both belong to exactly two triangles, for all pairs in ascending order.
func expectedEdges(triangles [][3]int) [][2]int {
	var vertices []int
	for _, triangle := range triangles {
		vertices = append(vertices, triangle[:]...)
	}
	slices.Sort(vertices)
	vertices = slices.Compact(vertices)
	var result [][2]int
	for i, a := range vertices {
		for _, b := range vertices[i+1:] {
			count := 0
			for _, triangle := range triangles {
				if slices.Contains(triangle[:], a) && slices.Contains(triangle[:], b) {
					count++
				}
			}
			if count == 2 {
				result = append(result, [2]int{a, b})
			}
		}
	}
	return result
}

// checkEdges checks the edges of triangles, and that the memory of results is their own.
func checkEdges(t *testing.T, list [][3]int, want [][2]int) {
	t.Helper()
	room := append(slices.Clone(list), [3]int{0, 1, 2}, [3]int{2, 1, 0}, [3]int{5, 6, 7})
	triangles := room[:len(list)]
	unchanged := watch(t, triangles)
	first, second := Edges(triangles), Edges(triangles)
	if !slices.Equal(first, want) {
		t.Errorf("the edges of %v are %v, want %v", triangles, first, want)
	}
	spoil(first, [2]int{-9, -9})
	if !slices.Equal(second, want) {
		t.Error("results of Edges share memory")
	}
	unchanged("Edges")
}

func TestP16_3Edges(t *testing.T) {
	for _, c := range []struct {
		triangles [][3]int
		want      [][2]int
	}{
		{nil, nil}, {[][3]int{}, nil}, {[][3]int{{0, 1, 2}}, nil}, {[][3]int{{0, 1, 2}, {3, 4, 5}}, nil}, {[][3]int{{0, 1, 2}, {2, 3, 4}}, nil}, {[][3]int{{0, 1, 2}, {1, 3, 2}}, [][2]int{{1, 2}}}, {[][3]int{{0, 1, 2}, {1, 2, 3}}, [][2]int{{1, 2}}}, {[][3]int{{7, 5, 6}, {5, 7, 4}}, [][2]int{{5, 7}}},
		// A common edge of three or four triangles is none of exactly two.
		{[][3]int{{0, 1, 2}, {0, 1, 3}, {0, 1, 4}}, nil}, {[][3]int{{0, 1, 2}, {1, 0, 3}, {4, 0, 1}, {0, 5, 1}}, nil}, {[][3]int{{0, 1, 2}, {0, 1, 3}, {0, 1, 4}, {0, 2, 5}}, [][2]int{{0, 2}}}, {[][3]int{{0, 1, 2}, {0, 1, 2}, {0, 1, 2}}, nil},
		{[][3]int{{0, 1, 2}, {0, 1, 2}}, [][2]int{{0, 1}, {0, 2}, {1, 2}}}, {[][3]int{{0, 1, 2}, {2, 1, 0}}, [][2]int{{0, 1}, {0, 2}, {1, 2}}}, {[][3]int{{0, 1, 2}, {1, 2, 0}, {0, 1, 3}}, [][2]int{{0, 2}, {1, 2}}},
		// A triangle counts an edge once, and a vertex has no edge with itself.
		{[][3]int{{3, 3, 4}}, nil}, {[][3]int{{3, 4, 3}, {4, 4, 3}}, [][2]int{{3, 4}}}, {[][3]int{{3, 3, 4}, {3, 4, 5}}, [][2]int{{3, 4}}}, {[][3]int{{3, 3, 3}, {3, 3, 3}}, nil}, {[][3]int{{3, 3, 3}, {3, 3, 4}, {5, 4, 3}}, [][2]int{{3, 4}}}, {[][3]int{{1, 1, 2}, {2, 2, 1}, {1, 2, 3}}, nil},
		{[][3]int{{-1, -2, -3}, {-3, -2, 5}}, [][2]int{{-3, -2}}}, {[][3]int{{largest, smallest, 0}, {0, smallest, largest}}, [][2]int{{smallest, 0}, {smallest, largest}, {0, largest}}}, {[][3]int{{smallest, largest, 1}, {largest, smallest, 2}}, [][2]int{{smallest, largest}}}, {[][3]int{{smallest, -1, largest}, {1, -1, largest}, {smallest, -1, 1}}, [][2]int{{smallest, -1}, {-1, 1}, {-1, largest}}},
		{[][3]int{{10, 9, 2}, {9, 10, 1}, {2, 9, 1}, {1 << 32, 2, 10}}, [][2]int{{1, 9}, {2, 9}, {2, 10}, {9, 10}}},
	} {
		checkEdges(t, c.triangles, c.want)
		checkEdges(t, c.triangles, expectedEdges(c.triangles))
	}
}

// triangleLists returns all lists of a length with triangles of these vertices.
func triangleLists(length int, vertices []int) [][][3]int {
	var result [][][3]int
	for _, list := range lists(3*length, vertices) {
		var triangles [][3]int
		for corners := range slices.Chunk(list, 3) {
			triangles = append(triangles, [3]int(corners))
		}
		result = append(result, triangles)
	}
	return result
}

// TestP16_3EdgesOfTwo checks all pairs of triangles of four vertices, so that common edges are in each place and in both directions.
func TestP16_3EdgesOfTwo(t *testing.T) {
	for _, vertices := range [][]int{{0, 1, 2, 3}, {5, largest, smallest, -1}} {
		for _, triangles := range triangleLists(2, vertices) {
			checkEdges(t, triangles, expectedEdges(triangles))
		}
	}
}

func TestP16_3EdgesOfThree(t *testing.T) {
	for _, triangles := range triangleLists(3, []int{2, 0, 1}) {
		checkEdges(t, triangles, expectedEdges(triangles))
	}
}

// TestP16_3EdgesOfMany checks more triangles, in which edges occur any number of times.
func TestP16_3EdgesOfMany(t *testing.T) {
	state := uint64(1)
	arbitrary := func(beyond int) int {
		state = state*6364136223846793005 + 1442695040888963407
		return int(state>>33)%beyond - beyond/3
	}
	for _, beyond := range []int{4, 6, 10, 20} {
		for count := range 60 {
			var triangles [][3]int
			for range count {
				triangles = append(triangles, [3]int{arbitrary(beyond), arbitrary(beyond), arbitrary(beyond)})
			}
			want := expectedEdges(triangles)
			checkEdges(t, triangles, want)
			slices.Reverse(triangles)
			checkEdges(t, triangles, want)
		}
	}
}

// traversals returns how often triangles traverse the edge from a to b.
func traversals(triangles [][3]int, a, b int) int {
	count := 0
	for _, triangle := range triangles {
		for k := range 3 {
			if triangle[k] == a && triangle[(k+1)%3] == b {
				count++
			}
		}
	}
	return count
}

// TestP16_3Rotated checks that a rotated triangle has the same edges in the same directions.
func TestP16_3Rotated(t *testing.T) {
	for _, tri := range [][3]int{{1, 2, 3}, {9, -4, 0}} {
		for n := -7; n <= 7; n++ {
			rotated := Rotate(tri, n)
			for k := range 3 {
				if traversals([][3]int{rotated}, tri[k], tri[(k+1)%3]) != 1 {
					t.Errorf("%v rotated by %d, %v, has other edges", tri, n, rotated)
				}
			}
			if sorted := slices.Sorted(slices.Values(rotated[:])); !slices.Equal(sorted, slices.Sorted(slices.Values(tri[:]))) {
				t.Errorf("%v rotated by %d, %v, has other vertices", tri, n, rotated)
			}
		}
	}
}

// TestP16_4Orientation checks that the two triangles of an interior edge of a strip or of a fan traverse it in opposite directions.
func TestP16_4Orientation(t *testing.T) {
	for _, topology := range []api.Topology{api.TriangleStrip, api.TriangleFan} {
		for length := range 60 {
			var run []int
			for i := range length {
				run = append(run, (i*37+length)%61)
			}
			triangles := Triangles(topology, run)
			edges := Edges(triangles)
			if len(edges) != max(0, length-3) {
				t.Errorf("%d vertices with topology %d have %d interior edges", length, topology, len(edges))
			}
			for _, edge := range edges {
				if there, back := traversals(triangles, edge[0], edge[1]), traversals(triangles, edge[1], edge[0]); there != 1 || back != 1 {
					t.Errorf("edge %v of %v with topology %d is traversed %d and %d times", edge, run, topology, there, back)
				}
			}
		}
	}
}

// TestP16_4Number checks that the number of triangles is the sum of Count over the runs.
func TestP16_4Number(t *testing.T) {
	for _, indices := range someIndices() {
		for _, topology := range append(topologies(), 0, 4, largest) {
			sum := 0
			for _, run := range Runs(indices) {
				sum += Count(topology, len(run))
			}
			if got := len(Triangles(topology, indices)); got != sum {
				t.Errorf("%v has %d triangles with topology %d, want %d", indices, got, topology, sum)
			}
		}
	}
}
