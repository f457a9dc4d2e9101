package assemble

import (
	"cmp"
	"slices"
)

// shared is the number of triangles that have an edge which Edges returns.
const shared = 2

// Edges returns the edges of exactly two triangles, in ascending order.
func Edges(triangles [][3]int) [][2]int {
	var all [][2]int
	for _, triangle := range triangles {
		all = append(all, edgesOf(triangle)...)
	}
	slices.SortFunc(all, compareEdges)
	var edges [][2]int
	for len(all) > 0 {
		count := countFirst(all)
		if count == shared {
			edges = append(edges, all[0])
		}
		all = all[count:]
	}
	return edges
}

// edgesOf returns the different edges of a triangle, with the lower vertex first.
func edgesOf(triangle [3]int) [][2]int {
	var edges [][2]int
	for i, a := range triangle {
		b := triangle[(i+1)%3]
		edge := [2]int{min(a, b), max(a, b)}
		// A triangle with two equal vertices has the same edge on both sides of them.
		if a != b && !slices.Contains(edges, edge) {
			edges = append(edges, edge)
		}
	}
	return edges
}

// countFirst returns the number of edges at the beginning of a sorted list that are equal to the first one.
func countFirst(edges [][2]int) int {
	count := 0
	for count < len(edges) && edges[count] == edges[0] {
		count++
	}
	return count
}

// compareEdges orders edges by their lower vertex, then by the other one.
func compareEdges(a, b [2]int) int {
	return cmp.Or(cmp.Compare(a[0], b[0]), cmp.Compare(a[1], b[1]))
}
