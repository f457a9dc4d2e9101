package permute

import (
	"fmt"
	"slices"
	"strings"
	"testing"

	"frustum/api"
)

// lists returns all lists of a length with numbers from -1 to the length.
func lists(length int) [][]int {
	result := [][]int{{}}
	for range length {
		var longer [][]int
		for _, list := range result {
			for x := -1; x <= length; x++ {
				longer = append(longer, append(slices.Clone(list), x))
			}
		}
		result = longer
	}
	return result
}

// isExpected reports whether a list contains each number from 0 to its last index exactly once, by counting.
func isExpected(list []int) bool {
	for n := range len(list) {
		count := 0
		for _, x := range list {
			if x == n {
				count++
			}
		}
		if count != 1 {
			return false
		}
	}
	return true
}

// swapped returns some larger permutations.
func swapped() [][]int {
	var result [][]int
	for _, n := range []int{6, 7, 8, 50, 255, 256, 257, 1000, 4096, 4097, 5000} {
		var ascending, descending, turned []int
		for i := range n {
			ascending, descending, turned = append(ascending, i), append(descending, n-1-i), append(turned, (i+3)%n)
		}
		result = append(result, ascending, descending, turned)
	}
	for state := range uint64(30) {
		list, _ := expectedPerm(int(6+state*state), state)
		result = append(result, list)
	}
	return result
}

// strangers returns numbers that are no index of any list, although some look like one if bits are dropped.
func strangers() []int {
	return []int{-1, -2, -64, -256, -1 << 31, -1 << 32, 1 - 1<<32, 1 << 32, 1<<32 + 1, 1 << 62, largest - 1, largest, smallest, smallest + 1, smallest + 2}
}

// shown returns the text of a list for a message, which names the first items only.
func shown[T any](list []T) string {
	return fmt.Sprintf("%d items %v", len(list), list[:min(len(list), 10)])
}

// checkList checks IsPermutation and Inverse of a list.
func checkList(t *testing.T, list []int, valid bool) {
	t.Helper()
	if got := IsPermutation(list); got != valid {
		t.Errorf("IsPermutation(%s) is %t", shown(list), got)
	}
	result, code := Inverse(list)
	if !valid {
		if result != nil || code != api.ErrArgument {
			t.Errorf("Inverse(%s) is %s, %d", shown(list), shown(result), code)
		}
		return
	}
	if len(result) != len(list) || code != api.OK {
		t.Errorf("Inverse(%s) is %s, %d", shown(list), shown(result), code)
		return
	}
	for i, x := range list {
		if result[x] != i {
			t.Errorf("Inverse(%s) has %d at %d, want %d", shown(list), result[x], x, i)
		}
	}
}

// checkApply checks the items that Apply returns.
func checkApply[T comparable](t *testing.T, list []T, order []int, want []T) {
	t.Helper()
	got := Apply(list, order)
	if !slices.Equal(got, want) {
		t.Errorf("Apply(%s, %s) is %s, want %s", shown(list), shown(order), shown(got), shown(want))
	}
}

// checkRejected checks that Apply returns nil.
func checkRejected[T any](t *testing.T, list []T, order []int) {
	t.Helper()
	if got := Apply(list, order); got != nil {
		t.Errorf("Apply(%s, %s) is %s", shown(list), shown(order), shown(got))
	}
}

func TestP7_3Examples(t *testing.T) {
	for _, c := range []struct{ list, inverse []int }{
		{nil, nil}, {[]int{}, nil}, {[]int{0}, []int{0}}, {[]int{0, 1}, []int{0, 1}}, {[]int{1, 0}, []int{1, 0}}, {[]int{1, 2, 0}, []int{2, 0, 1}}, {[]int{2, 0, 1}, []int{1, 2, 0}}, {[]int{2, 1, 0}, []int{2, 1, 0}},
		{[]int{3, 1, 0, 2}, []int{2, 1, 3, 0}}, {[]int{4, 2, 0, 1, 3}, []int{2, 3, 1, 4, 0}},
	} {
		checkList(t, c.list, true)
		if got, code := Inverse(c.list); !slices.Equal(got, c.inverse) || code != api.OK {
			t.Errorf("Inverse(%v) is %v, %d, want %v", c.list, got, code, c.inverse)
		}
	}
	for _, list := range [][]int{
		{1}, {-1}, {2}, {largest}, {smallest}, {0, 0}, {1, 1}, {0, 2}, {2, 0}, {1, 2}, {-1, 0}, {0, -1}, {1, -1}, {0, 1, 1}, {0, 0, 1}, {1, 0, 1}, {1, 2, 3}, {0, 1, 3}, {3, 1, 0}, {0, 1, 2, 2}, {0, 1, 2, 4}, {3, 3, 3, 3}, {0, 0, 3, 3},
		// The sums of these are those of permutations.
		{0, 0, 3}, {1, 1, 1}, {-1, 2, 2}, {-1, 1, 3}, {0, 3, 3, 0}, {-1, 0, 1, 6},
	} {
		checkList(t, list, false)
	}
}

// TestP7_3AllLists checks all lists of up to 5 numbers from -1 to the length.
func TestP7_3AllLists(t *testing.T) {
	factorial := 1
	for length := range 6 {
		factorial *= max(1, length)
		valid := 0
		for _, list := range lists(length) {
			expected := isExpected(list)
			checkList(t, list, expected)
			if expected {
				valid++
			}
		}
		if valid != factorial {
			t.Errorf("%d lists of the length %d are permutations, want %d", valid, length, factorial)
		}
	}
}

// TestP7_3SpoiledLists replaces single numbers of permutations by others.
func TestP7_3SpoiledLists(t *testing.T) {
	for _, list := range slices.Concat(swapped(), [][]int{{0}, {1, 0}, {0, 1, 2}}) {
		checkList(t, list, true)
		for _, at := range []int{0, len(list) / 2, len(list) - 1} {
			for _, x := range append(strangers(), len(list), len(list)+1, len(list)+256, -len(list)) {
				spoiled := slices.Clone(list)
				spoiled[at] = x
				checkList(t, spoiled, false)
			}
			if len(list) > 1 {
				twice := slices.Clone(list)
				twice[at] = twice[(at+1)%len(list)]
				checkList(t, twice, false)
			}
		}
	}
}

// TestP7_3Memory checks that neither the list nor the capacity behind it are changed or returned.
func TestP7_3Memory(t *testing.T) {
	room := []int{2, 0, 1, 3, 5, 4, 9, -1, smallest}
	before := slices.Clone(room)
	for length := range len(room) + 1 {
		list := room[:length]
		checkList(t, list, isExpected(before[:length]))
		result, _ := Inverse(list)
		for i := range result {
			result[i] = -7
		}
		for i := range result[len(result):cap(result)] {
			result[:cap(result)][len(result)+i] = -7
		}
		if !slices.Equal(room, before) {
			t.Fatalf("Inverse of %d numbers changed %v to %v, or shares their memory", length, before, room)
		}
	}
	first, _ := Inverse(room[:6])
	second, _ := Inverse(room[:6])
	clear(first)
	if !slices.Equal(second, []int{1, 2, 0, 3, 5, 4}) {
		t.Errorf("two results share memory: %v", second)
	}
}

type pair struct {
	name  string
	value int
}

func TestP7_3Apply(t *testing.T) {
	ints := []int{10, 20, 30}
	for _, c := range []struct{ order, want []int }{
		{nil, nil}, {[]int{}, nil}, {[]int{0}, []int{10}}, {[]int{1}, []int{20}}, {[]int{2}, []int{30}}, {[]int{2, 0}, []int{30, 10}}, {[]int{0, 1, 2}, []int{10, 20, 30}}, {[]int{2, 1, 0}, []int{30, 20, 10}}, {[]int{1, 2, 0}, []int{20, 30, 10}},
		{[]int{1, 1}, []int{20, 20}}, {[]int{2, 2, 2}, []int{30, 30, 30}}, {[]int{0, 0, 1, 0}, []int{10, 10, 20, 10}}, {[]int{2, 0, 2, 1, 0, 1}, []int{30, 10, 30, 20, 10, 20}},
	} {
		checkApply(t, ints, c.order, c.want)
	}
	strs := []string{"a", "", "\xff", "word"}
	checkApply(t, strs, []int{3, 2, 1, 0}, []string{"word", "\xff", "", "a"})
	checkApply(t, strs, []int{1, 1, 3}, []string{"", "", "word"})
	checkApply(t, strs, []int{0, 1, 2, 3, 2, 1, 0}, []string{"a", "", "\xff", "word", "\xff", "", "a"})
	structs := []pair{{"x", 1}, {"y", 2}}
	checkApply(t, structs, []int{1, 0}, []pair{{"y", 2}, {"x", 1}})
	checkApply(t, structs, []int{1}, []pair{{"y", 2}})
	checkApply(t, structs, []int{0, 0, 1}, []pair{{"x", 1}, {"x", 1}, {"y", 2}})
	checkApply(t, []struct{}{{}, {}}, []int{1, 1, 0}, make([]struct{}, 3))
	checkApply(t, []api.Vec4{{X: 1}, {W: 2}}, []int{1, 0, 1}, []api.Vec4{{W: 2}, {X: 1}, {W: 2}})
	checkApply(t, []any{1, "b", nil}, []int{2, 1, 0}, []any{nil, "b", 1})
	one, two := 1, 2
	checkApply(t, []*int{&one, nil, &two}, []int{2, 1, 0}, []*int{&two, nil, &one})
	if got := Apply([]func() int{func() int { return 4 }, func() int { return 5 }}, []int{1, 0}); len(got) != 2 || got[0]() != 5 || got[1]() != 4 {
		t.Error("Apply of functions")
	}
}

func TestP7_3ApplyEmpty(t *testing.T) {
	checkApply(t, []int(nil), nil, nil)
	checkApply(t, []int{}, []int{}, nil)
	checkApply(t, []string{}, nil, nil)
	checkApply(t, []pair{{"x", 1}}, []int{}, nil)
	for _, at := range append(strangers(), 0, 1, 2) {
		checkRejected(t, []int(nil), []int{at})
		checkRejected(t, []string{}, []int{at})
		checkRejected(t, []pair{}, []int{at, at})
		checkRejected(t, []struct{}{}, []int{at})
	}
}

// TestP7_3ApplyRejected puts indices that do not exist at all places of orders.
func TestP7_3ApplyRejected(t *testing.T) {
	strs := []string{"a", "b", "c"}
	structs := []pair{{"x", 1}, {"y", 2}, {"z", 3}}
	for _, order := range [][]int{{}, {0}, {2, 1}, {0, 1, 2}, {2, 2, 0, 1, 1}} {
		for at := range len(order) + 1 {
			for _, x := range append(strangers(), 3, 4, 5, 259) {
				spoiled := slices.Insert(slices.Clone(order), at, x)
				checkRejected(t, strs, spoiled)
				checkRejected(t, structs, spoiled)
				checkRejected(t, make([]struct{}, 3), spoiled)
			}
		}
	}
	// The item exists behind the length of the list only.
	checkRejected(t, strs[:2], []int{0, 2})
	checkRejected(t, strs[:0], []int{0})
	checkRejected(t, strs, append(slices.Repeat([]int{0, 1, 2}, 5000), 3))
}

// TestP7_3ApplyLists compares Apply with single items, for all lists that are orders or almost ones.
func TestP7_3ApplyLists(t *testing.T) {
	items := []int{7, 8, 9, 10, 11}
	for length := range 5 {
		for _, order := range lists(length) {
			for _, list := range [][]int{nil, items[:1], items[:length], items} {
				var want []int
				for _, at := range order {
					if at < 0 || at >= len(list) {
						want = nil
						break
					}
					want = append(want, list[at])
				}
				checkApply(t, list, order, want)
			}
		}
	}
}

// TestP7_3ApplyMemory checks that neither the list, nor the order, nor the capacity behind them are changed or returned.
func TestP7_3ApplyMemory(t *testing.T) {
	rooms := [2][]int{{4, 5, 6, 7, 8, 9}, {3, 2, 1, 0, 0, 9}}
	before := [2][]int{slices.Clone(rooms[0]), slices.Clone(rooms[1])}
	for length := range 7 {
		for count := range 7 {
			result := Apply(rooms[0][:length], rooms[1][:count])
			result = result[:cap(result)]
			for i := range result {
				result[i] = -7
			}
			if !slices.Equal(rooms[0], before[0]) || !slices.Equal(rooms[1], before[1]) {
				t.Fatalf("Apply of %d items and %d indices changed its arguments to %v, or shares their memory", length, count, rooms)
			}
		}
	}
	// A list may be its own order.
	same := []int{2, 0, 1}
	result := Apply(same, same)
	if !slices.Equal(result, []int{1, 2, 0}) || !slices.Equal(same, []int{2, 0, 1}) {
		t.Errorf("Apply of a list to itself is %v, and the list %v", result, same)
	}
	again := Apply(same, same)
	clear(result)
	if !slices.Equal(again, []int{1, 2, 0}) || !slices.Equal(same, []int{2, 0, 1}) {
		t.Error("two results share memory")
	}
}

// TestP7_4Inverse checks that the inverse of the inverse is the permutation, and that each of them undoes the other.
func TestP7_4Inverse(t *testing.T) {
	all := swapped()
	for length := range 6 {
		for _, list := range lists(length) {
			if isExpected(list) {
				all = append(all, list)
			}
		}
	}
	for _, list := range all {
		inverse, code := Inverse(list)
		back, backCode := Inverse(inverse)
		if code != api.OK || backCode != api.OK || !slices.Equal(back, list) {
			t.Errorf("the inverse of the inverse of %s is %s, with %d and %d", shown(list), shown(back), code, backCode)
		}
		letters := strings.Split(strings.Repeat("abcdefg", len(list)), "")[:len(list)]
		checkApply(t, Apply(letters, list), inverse, letters)
		checkApply(t, Apply(letters, inverse), list, letters)
	}
}
