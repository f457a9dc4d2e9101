package fetch

import (
	"slices"
	"testing"
)

// expectedUnique returns what Unique must return, by searching the list of different indices for each index.
func expectedUnique(indices []int) ([]int, []int) {
	var different, positions []int
	for _, index := range indices {
		position := -1
		if index >= 0 {
			if !slices.Contains(different, index) {
				different = append(different, index)
			}
			position = slices.Index(different, index)
		}
		positions = append(positions, position)
	}
	return different, positions
}

// checkUnique checks both lists, that they refer to the original indices, and that the memory of results is their own.
func checkUnique(t *testing.T, indices, different, positions []int) {
	t.Helper()
	unchanged := watch(t, indices)
	got, places := Unique(indices)
	if !slices.Equal(got, different) || !slices.Equal(places, positions) {
		t.Errorf("Unique of %v is %v and %v, want %v and %v", indices, got, places, different, positions)
		return
	}
	for i, index := range indices {
		if index >= 0 && got[places[i]] != index || index < 0 && places[i] != -1 {
			t.Errorf("position %d of %v refers to another index: %v and %v", i, indices, got, places)
		}
	}
	other, otherPlaces := Unique(indices)
	spoil(got)
	if !slices.Equal(places, positions) {
		t.Error("the two lists of one result share memory")
	}
	spoil(places)
	if !slices.Equal(other, different) || !slices.Equal(otherPlaces, positions) {
		t.Error("results of Unique share memory")
	}
	unchanged("Unique")
}

func TestP15_4Examples(t *testing.T) {
	for _, c := range []struct{ indices, different, positions []int }{
		{[]int{7, 3, 7, -1}, []int{7, 3}, []int{0, 1, 0, -1}}, {nil, nil, nil}, {[]int{}, nil, nil}, {[]int{0}, []int{0}, []int{0}}, {[]int{5}, []int{5}, []int{0}}, {[]int{-1}, nil, []int{-1}}, {[]int{-2}, nil, []int{-1}}, {[]int{smallest}, nil, []int{-1}}, {[]int{largest}, []int{largest}, []int{0}},
		{[]int{-1, -1, -1}, nil, []int{-1, -1, -1}}, {[]int{-5, -1, smallest, -7}, nil, []int{-1, -1, -1, -1}}, {[]int{4, 4, 4}, []int{4}, []int{0, 0, 0}}, {[]int{4, 4, 5}, []int{4, 5}, []int{0, 0, 1}}, {[]int{5, 4, 4}, []int{5, 4}, []int{0, 1, 1}}, {[]int{4, 5, 4}, []int{4, 5}, []int{0, 1, 0}},
		{[]int{3, 2, 1, 0}, []int{3, 2, 1, 0}, []int{0, 1, 2, 3}}, {[]int{0, 1, 2, 2, 1, 3}, []int{0, 1, 2, 3}, []int{0, 1, 2, 2, 1, 3}}, {[]int{-1, 9, 8, -1, 9}, []int{9, 8}, []int{-1, 0, 1, -1, 0}}, {[]int{0, smallest, largest, 0, largest}, []int{0, largest}, []int{0, -1, 1, 0, 1}}, {[]int{-1, 0, -1, 0}, []int{0}, []int{-1, 0, -1, 0}},
		{[]int{1 << 32, 0, 1<<32 + 1, 1}, []int{1 << 32, 0, 1<<32 + 1, 1}, []int{0, 1, 2, 3}}, {[]int{largest, largest - 1, largest}, []int{largest, largest - 1}, []int{0, 1, 0}}, {[]int{-largest, largest, smallest + 1}, []int{largest}, []int{-1, 0, -1}},
	} {
		checkUnique(t, c.indices, c.different, c.positions)
	}
}

// TestP15_4AllLists checks all lists of up to 6 indices, with other items behind them.
func TestP15_4AllLists(t *testing.T) {
	values := []int{0, 3, 1, largest, -1, smallest}
	for length := range 7 {
		for _, n := range numbers(length, len(values)) {
			indices := make([]int, 0, length+2)
			for _, digit := range n {
				indices = append(indices, values[digit])
			}
			different, positions := expectedUnique(indices)
			checkUnique(t, indices, different, positions)
		}
	}
}

// numbers returns all lists of a length with numbers less than base.
func numbers(length, base int) [][]int {
	result := [][]int{{}}
	for range length {
		var longer [][]int
		for _, list := range result {
			for digit := range base {
				longer = append(longer, append(slices.Clone(list), digit))
			}
		}
		result = longer
	}
	return result
}

// arbitrary returns arbitrary indices between two numbers.
func arbitrary(count, least, beyond int) []int {
	var result []int
	state := uint64(count)
	for range count {
		state = state*6364136223846793005 + 1442695040888963407
		result = append(result, least+int(state>>33)%(beyond-least))
	}
	return result
}

func TestP15_4Long(t *testing.T) {
	for _, beyond := range []int{2, 10, 100, 1000, 100000} {
		for _, count := range []int{30, 1024, 3000} {
			indices := arbitrary(count, -beyond/5, beyond)
			different, positions := expectedUnique(indices)
			checkUnique(t, indices, different, positions)
		}
	}
	var ascending, descending []int
	for i := range 2000 {
		ascending, descending = append(ascending, i), append(descending, 1999-i)
	}
	checkUnique(t, ascending, ascending, ascending)
	checkUnique(t, descending, descending, ascending)
}

// TestP15_5 checks that an index buffer is restored from its different indices and their positions.
func TestP15_5(t *testing.T) {
	for _, s := range sizes() {
		for seed := range uint64(50) {
			data := made(1000, seed)
			for i := range data {
				// Few different bytes give repeated indices, and restarts of each size.
				if data[i] %= 3; data[i] == 2 {
					data[i] = 255
				}
			}
			indices := Indices(data, s.t, int(seed), 1024)
			different, positions := Unique(indices)
			for i, position := range positions {
				restored := -1
				if position >= 0 {
					restored = different[position]
				}
				if restored != indices[i] {
					t.Errorf("index %d is restored as %d, not %d", i, restored, indices[i])
				}
			}
		}
	}
}
