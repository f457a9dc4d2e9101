package mask

import (
	"math"
	"slices"
	"strings"
	"testing"
)

const (
	largest  = math.MaxInt
	smallest = math.MinInt
)

// set is a mask as the chapter defines it: lane i is in it if element i is true.
type set [16]bool

// setOf returns the lanes of a mask, bit by bit from the lowest one on.
func setOf(m uint16) set {
	var s set
	rest := int(m)
	for i := range s {
		s[i] = rest%2 == 1
		rest /= 2
	}
	return s
}

// bitsOf returns the mask of a set, as a sum of powers of two.
func bitsOf(s set) uint16 {
	sum, power := 0, 1
	for _, in := range s {
		if in {
			sum += power
		}
		power *= 2
	}
	return uint16(sum)
}

// lanesOf returns the lanes of a set in ascending order.
func lanesOf(s set) []int {
	var list []int
	for i, in := range s {
		if in {
			list = append(list, i)
		}
	}
	return list
}

// isLane reports whether a number is a lane.
func isLane(lane int) bool {
	return slices.Contains([]int{0, 1, 2, 3, 4, 5, 6, 7, 8, 9, 10, 11, 12, 13, 14, 15}, lane)
}

// strangers returns numbers that are no lanes, although the lowest bits of many are those of a lane.
func strangers() []int {
	numbers := []int{smallest, smallest + 1, smallest + 15, smallest + 16, largest, largest - 1, largest - 15, largest - 16}
	for lane := range 16 {
		numbers = append(numbers, lane+16, lane-16, lane-32)
		for _, far := range []int{32, 64, 128, 256, 1 << 15, 1 << 16, 1 << 31, 1 << 32, 1 << 62} {
			numbers = append(numbers, lane+far, lane-far)
		}
	}
	return numbers
}

// arbitrary returns arbitrary masks, the same in each run.
func arbitrary(count int) []uint16 {
	var masks []uint16
	state := uint64(1)
	for range count {
		state = state*6364136223846793005 + 1442695040888963407
		masks = append(masks, uint16(state>>40))
	}
	return masks
}

// someMasks returns the empty and the full mask, those of one lane and of all lanes but one, and arbitrary ones.
func someMasks() []uint16 {
	masks := []uint16{0, 65535, 0x5555, 0xaaaa, 0x00ff, 0xff00}
	for power := 1; power < 65536; power *= 2 {
		masks = append(masks, uint16(power), uint16(65535-power))
	}
	return append(masks, arbitrary(20)...)
}

// checkLane checks Has, With and Without of a mask and a number.
func checkLane(t *testing.T, m uint16, lane int) {
	t.Helper()
	s := setOf(m)
	has, with, without := false, s, s
	if isLane(lane) {
		has, with[lane], without[lane] = s[lane], true, false
	}
	if got := Has(m, lane); got != has {
		t.Errorf("Has(%#04x, %d) is %t", m, lane, got)
	}
	if got, want := With(m, lane), bitsOf(with); got != want {
		t.Errorf("With(%#04x, %d) is %#04x, want %#04x", m, lane, got, want)
	}
	if got, want := Without(m, lane), bitsOf(without); got != want {
		t.Errorf("Without(%#04x, %d) is %#04x, want %#04x", m, lane, got, want)
	}
}

// checkPair checks And, Or and AndNot of two masks, lane by lane.
func checkPair(t *testing.T, a, b uint16) {
	t.Helper()
	inA, inB := setOf(a), setOf(b)
	var both, either, first set
	for i := range 16 {
		both[i] = inA[i] && inB[i]
		either[i] = inA[i] || inB[i]
		first[i] = inA[i] && !inB[i]
	}
	if got, want := And(a, b), bitsOf(both); got != want {
		t.Errorf("And(%#04x, %#04x) is %#04x, want %#04x", a, b, got, want)
	}
	if got, want := Or(a, b), bitsOf(either); got != want {
		t.Errorf("Or(%#04x, %#04x) is %#04x, want %#04x", a, b, got, want)
	}
	if got, want := AndNot(a, b), bitsOf(first); got != want {
		t.Errorf("AndNot(%#04x, %#04x) is %#04x, want %#04x", a, b, got, want)
	}
}

// checkOf checks the mask of a list, and that the list is left as it is.
func checkOf(t *testing.T, lanes []int, want uint16) {
	t.Helper()
	before := slices.Clone(lanes)
	if got := Of(lanes); got != want {
		t.Errorf("Of(%v) is %#04x, want %#04x", before, got, want)
	}
	if !slices.Equal(lanes, before) {
		t.Errorf("Of changed %v to %v", before, lanes)
	}
}

func TestP8_1All(t *testing.T) {
	for _, c := range []struct {
		n    int
		want uint16
	}{
		{-2, 0}, {-1, 0}, {0, 0}, {1, 1}, {2, 3}, {3, 7}, {4, 15}, {5, 31}, {6, 63}, {7, 127}, {8, 255}, {9, 511}, {10, 1023}, {11, 2047}, {12, 4095}, {13, 8191}, {14, 16383}, {15, 32767}, {16, 65535},
		{17, 65535}, {18, 65535}, {31, 65535}, {32, 65535}, {33, 65535}, {63, 65535}, {64, 65535}, {65, 65535}, {256, 65535}, {65536, 65535}, {1 << 31, 65535}, {1 << 32, 65535}, {1<<32 + 3, 65535}, {1 << 62, 65535}, {largest - 1, 65535}, {largest, 65535},
		{-15, 0}, {-16, 0}, {-17, 0}, {-63, 0}, {-64, 0}, {-256, 0}, {3 - 65536, 0}, {3 - 1<<32, 0}, {-1 << 62, 0}, {smallest + 3, 0}, {smallest + 1, 0}, {smallest, 0},
	} {
		if got := All(c.n); got != c.want {
			t.Errorf("All(%d) is %#04x, want %#04x", c.n, got, c.want)
		}
	}
}

func TestP8_1Lane(t *testing.T) {
	for _, c := range []struct {
		m             uint16
		lane          int
		has           bool
		with, without uint16
	}{
		{5, 0, true, 5, 4}, {5, 1, false, 7, 5}, {5, 2, true, 5, 1}, {5, 15, false, 0x8005, 5}, {0x8000, 15, true, 0x8000, 0}, {0, 0, false, 1, 0}, {65535, 0, true, 65535, 65534}, {65535, 15, true, 65535, 32767},
		{5, -1, false, 5, 5}, {5, 16, false, 5, 5}, {65535, -1, false, 65535, 65535}, {65535, 16, false, 65535, 65535}, {0, -1, false, 0, 0}, {0, 16, false, 0, 0},
		{65535, largest, false, 65535, 65535}, {65535, smallest, false, 65535, 65535}, {1, 64, false, 1, 1}, {1, -64, false, 1, 1}, {0, 65536, false, 0, 0}, {65535, 65536, false, 65535, 65535},
	} {
		if has, with, without := Has(c.m, c.lane), With(c.m, c.lane), Without(c.m, c.lane); has != c.has || with != c.with || without != c.without {
			t.Errorf("Has, With and Without of %#04x and %d are %t, %#04x and %#04x, want %t, %#04x and %#04x", c.m, c.lane, has, with, without, c.has, c.with, c.without)
		}
	}
}

// TestP8_1AllLanes checks each mask with each lane and the numbers next to them.
func TestP8_1AllLanes(t *testing.T) {
	for m := range 65536 {
		for lane := -1; lane <= 16; lane++ {
			checkLane(t, uint16(m), lane)
		}
	}
}

func TestP8_1NoLanes(t *testing.T) {
	for _, m := range someMasks() {
		for _, lane := range strangers() {
			if isLane(lane) {
				t.Fatalf("the tests take %d for a number that is no lane", lane)
			}
			checkLane(t, m, lane)
		}
		for lane := -200; lane <= 200; lane++ {
			checkLane(t, m, lane)
		}
	}
}

func TestP8_1Pairs(t *testing.T) {
	for _, c := range []struct{ a, b, and, or, andNot uint16 }{
		{0, 0, 0, 0, 0}, {0, 65535, 0, 65535, 0}, {65535, 0, 0, 65535, 65535}, {65535, 65535, 65535, 65535, 0}, {12, 10, 8, 14, 4}, {10, 12, 8, 14, 2}, {0xff00, 0x0ff0, 0x0f00, 0xfff0, 0xf000}, {0x8001, 0x8000, 0x8000, 0x8001, 1},
	} {
		if and, or, andNot := And(c.a, c.b), Or(c.a, c.b), AndNot(c.a, c.b); and != c.and || or != c.or || andNot != c.andNot {
			t.Errorf("And, Or and AndNot of %#04x and %#04x are %#04x, %#04x and %#04x, want %#04x, %#04x and %#04x", c.a, c.b, and, or, andNot, c.and, c.or, c.andNot)
		}
	}
}

// TestP8_1AllPairs checks all pairs of masks of 8 lanes, low and high, and pairs of arbitrary masks.
func TestP8_1AllPairs(t *testing.T) {
	for a := range uint16(256) {
		for b := range uint16(256) {
			checkPair(t, a, b)
			checkPair(t, a*256, b*256)
		}
	}
	masks := append(someMasks(), arbitrary(400)...)
	for _, a := range masks {
		for _, b := range masks {
			checkPair(t, a, b)
		}
	}
}

func TestP8_2Examples(t *testing.T) {
	for _, c := range []struct {
		m            uint16
		count, first int
		lanes        []int
		text         string
	}{
		{0, 0, -1, nil, "................"}, {5, 2, 0, []int{0, 2}, "1.1............."}, {6, 2, 1, []int{1, 2}, ".11............."}, {1, 1, 0, []int{0}, "1..............."}, {0x8000, 1, 15, []int{15}, "...............1"},
		{0x8001, 2, 0, []int{0, 15}, "1..............1"}, {0x00f0, 4, 4, []int{4, 5, 6, 7}, "....1111........"}, {65534, 15, 1, []int{1, 2, 3, 4, 5, 6, 7, 8, 9, 10, 11, 12, 13, 14, 15}, ".111111111111111"},
		{65535, 16, 0, []int{0, 1, 2, 3, 4, 5, 6, 7, 8, 9, 10, 11, 12, 13, 14, 15}, "1111111111111111"},
	} {
		if count, first := Count(c.m), First(c.m); count != c.count || first != c.first {
			t.Errorf("Count and First of %#04x are %d and %d, want %d and %d", c.m, count, first, c.count, c.first)
		}
		if lanes, text := Lanes(c.m), Text(c.m); !slices.Equal(lanes, c.lanes) || text != c.text {
			t.Errorf("Lanes and Text of %#04x are %v and %q, want %v and %q", c.m, lanes, text, c.lanes, c.text)
		}
		checkOf(t, c.lanes, c.m)
	}
	if text := Text(5); All(3) != 7 || !strings.HasPrefix(text, "1.1.") {
		t.Errorf("All(3) is %d, and Text(5) is %q", All(3), text)
	}
}

// TestP8_2AllMasks checks the functions of one mask for each mask.
func TestP8_2AllMasks(t *testing.T) {
	for i := range 65536 {
		m := uint16(i)
		s := setOf(m)
		lanes, first, text := lanesOf(s), -1, ""
		if len(lanes) > 0 {
			first = lanes[0]
		}
		for _, in := range s {
			if in {
				text += "1"
			} else {
				text += "."
			}
		}
		if got := Count(m); got != len(lanes) {
			t.Errorf("Count(%#04x) is %d, want %d", m, got, len(lanes))
		}
		if got := First(m); got != first {
			t.Errorf("First(%#04x) is %d, want %d", m, got, first)
		}
		if got := Lanes(m); !slices.Equal(got, lanes) {
			t.Errorf("Lanes(%#04x) is %v, want %v", m, got, lanes)
		}
		if got := Text(m); got != text {
			t.Errorf("Text(%#04x) is %q, want %q", m, got, text)
		}
	}
}

func TestP8_2Of(t *testing.T) {
	for _, c := range []struct {
		lanes []int
		want  uint16
	}{
		{nil, 0}, {[]int{}, 0}, {[]int{0}, 1}, {[]int{15}, 0x8000}, {[]int{0, 2}, 5}, {[]int{2, 0}, 5}, {[]int{15, 3, 0}, 0x8009}, {[]int{3, 3}, 8}, {[]int{3, 3, 3}, 8}, {[]int{1, 2, 1, 2, 1}, 6}, {[]int{7, 0, 7}, 0x81},
		{[]int{-1}, 0}, {[]int{16}, 0}, {[]int{-1, 16}, 0}, {[]int{-1, 1}, 2}, {[]int{1, -1}, 2}, {[]int{16, 1, 2}, 6}, {[]int{1, 16, 2}, 6}, {[]int{1, 2, 16}, 6}, {[]int{1, -1, 2}, 6}, {[]int{-16, 0, -1, 15, 31}, 0x8001},
		{[]int{smallest}, 0}, {[]int{largest}, 0}, {[]int{smallest, 4}, 16}, {[]int{4, largest}, 16}, {[]int{0, smallest, 1, largest, 2}, 7}, {[]int{64, 65536, -64}, 0},
		{[]int{15, 14, 13, 12, 11, 10, 9, 8, 7, 6, 5, 4, 3, 2, 1, 0}, 65535}, {slices.Repeat([]int{15, 16, 1}, 5000), 0x8002},
	} {
		checkOf(t, c.lanes, c.want)
	}
}

// TestP8_2OfNumbers puts numbers that are no lanes at the beginning, in the middle and at the end of lists.
func TestP8_2OfNumbers(t *testing.T) {
	checkOf(t, strangers(), 0)
	for _, lane := range strangers() {
		checkOf(t, []int{lane}, 0)
		for first := range 16 {
			for last := range 16 {
				var s set
				s[first], s[last] = true, true
				for at := range 3 {
					checkOf(t, slices.Insert([]int{first, last}, at, lane), bitsOf(s))
				}
			}
		}
	}
}

// TestP8_2OfOrders lists the lanes of masks in other orders and several times.
func TestP8_2OfOrders(t *testing.T) {
	for _, m := range append(someMasks(), arbitrary(500)...) {
		ascending := lanesOf(setOf(m))
		descending := slices.Clone(ascending)
		slices.Reverse(descending)
		checkOf(t, ascending, m)
		checkOf(t, descending, m)
		checkOf(t, slices.Concat(ascending, descending), m)
		checkOf(t, slices.Concat(descending, []int{-1, 16}, ascending, descending), m)
	}
}

// TestP8_2Memory checks that Of leaves alone what lies behind a list, and that results of Lanes are not the same memory.
func TestP8_2Memory(t *testing.T) {
	room := []int{3, 1, 20, 1, -5, 0, 9, 15, 15, 4}
	before := slices.Clone(room)
	for length := range len(room) + 1 {
		var s set
		for _, lane := range before[:length] {
			if isLane(lane) {
				s[lane] = true
			}
		}
		checkOf(t, room[:length], bitsOf(s))
		if !slices.Equal(room, before) {
			t.Fatalf("Of of %d lanes changed %v to %v", length, before, room)
		}
	}
	for _, m := range someMasks() {
		first, second := Lanes(m), Lanes(m)
		for i := range first[:cap(first)] {
			first[:cap(first)][i] = -7
		}
		if want := lanesOf(setOf(m)); !slices.Equal(second, want) || !slices.Equal(Lanes(m), want) {
			t.Errorf("results of Lanes(%#04x) share memory", m)
		}
	}
}

// TestP8_3 checks that Of(Lanes(m)) is m.
func TestP8_3(t *testing.T) {
	for m := range 65536 {
		if got := Of(Lanes(uint16(m))); got != uint16(m) {
			t.Errorf("Of(Lanes(%#04x)) is %#04x", m, got)
		}
	}
}
