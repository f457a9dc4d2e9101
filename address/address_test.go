package address

import (
	"math"
	"math/big"
	"testing"

	"frustum/api"
)

const (
	largest  = math.MaxInt
	smallest = math.MinInt
)

func modes() []api.AddressMode {
	return []api.AddressMode{api.Repeat, api.Mirror, api.ClampToEdge, api.ClampBorder}
}

// noModes returns numbers that are no modes, some of which look like one if bits are dropped.
func noModes() []api.AddressMode {
	result := []api.AddressMode{0, 5, 6, 8, -1, -2, -3, -4, 64, largest, largest - 1, smallest, smallest + 1, smallest + 4}
	for _, m := range modes() {
		result = append(result, m+1<<8, m+1<<32, m+1<<62, m-1<<8, m-1<<32, m-1<<62)
	}
	return result
}

// sizes returns the sizes of images, the numbers next to them, and some that look like sizes if bits are dropped.
func sizes() []int {
	result := []int{-2, -64, 66, 127, 128, 256, 1<<16 + 4, 1 << 32, 1<<32 + 1, 4 - 1<<32, 1 << 61, 1 << 62, 1<<62 + 4, largest, largest - 1, smallest, smallest + 1, smallest + 4}
	for size := -1; size <= 65; size++ {
		result = append(result, size)
	}
	return result
}

// isSide reports whether an image may have this size.
func isSide(size int) bool {
	return size > 0 && size < 65
}

// indices returns the ints near 0, near the smallest and the largest one, and near powers of two.
func indices() []int {
	var result []int
	for i := -300; i <= 300; i++ {
		result = append(result, i)
	}
	for near := range 130 {
		result = append(result, smallest+near, largest-near)
	}
	for shift := 9; shift < 63; shift++ {
		for near := -2; near <= 2; near++ {
			result = append(result, 1<<shift+near, -1<<shift+near)
		}
	}
	return result
}

// exactMod returns the remainder of an integer by Euclidean division, or 0 if n is not positive.
func exactMod(i *big.Int, n int) int {
	if n < 1 {
		return 0
	}
	return int(new(big.Int).Mod(i, big.NewInt(int64(n))).Int64())
}

// exactIndex returns the index of an integer by the rule of each mode.
func exactIndex(m api.AddressMode, i *big.Int, size int) int {
	if !isSide(size) {
		return -1
	}
	below, beyond := i.Sign() < 0, i.Cmp(big.NewInt(int64(size))) >= 0
	switch m {
	case api.Repeat:
		return exactMod(i, size)
	case api.Mirror:
		j := exactMod(i, size+size)
		if j < size {
			return j
		}
		return size + size - 1 - j
	case api.ClampToEdge:
		if below {
			return 0
		}
		if beyond {
			return size - 1
		}
		return int(i.Int64())
	case api.ClampBorder:
		if below || beyond {
			return -1
		}
		return int(i.Int64())
	}
	return -1
}

func exact(i int) *big.Int {
	return big.NewInt(int64(i))
}

func TestP11_1Mod(t *testing.T) {
	for _, c := range []struct{ i, n, want int }{
		{0, 4, 0}, {3, 4, 3}, {4, 4, 0}, {5, 4, 1}, {-1, 4, 3}, {-4, 4, 0}, {-5, 4, 3}, {-3, 4, 1}, {7, 1, 0}, {-7, 1, 0}, {-1, 7, 6}, {-8, 7, 6}, {5, 0, 0}, {5, -1, 0}, {-5, -3, 0}, {5, -4, 0},
		{largest, largest, 0}, {smallest, largest, largest - 1}, {-1, largest, largest - 1}, {largest, 2, 1}, {smallest, 2, 0}, {smallest, 3, 1}, {largest, smallest, 0}, {smallest, smallest, 0}, {smallest, -1, 0}, {-largest, largest, 0},
	} {
		if got := Mod(c.i, c.n); got != c.want {
			t.Errorf("Mod(%d, %d) is %d, want %d", c.i, c.n, got, c.want)
		}
	}
}

// TestP11_1ModNumbers compares Mod with exact integers.
func TestP11_1ModNumbers(t *testing.T) {
	divisors := []int{smallest, smallest + 1, largest, largest - 1, largest / 2, 1 << 62, -1 << 62, 1 << 32, 1<<32 + 5, -1 << 32, 1000003}
	for n := -2; n <= 130; n++ {
		divisors = append(divisors, n)
	}
	for _, i := range indices() {
		for _, n := range divisors {
			if got, want := Mod(i, n), exactMod(exact(i), n); got != want {
				t.Errorf("Mod(%d, %d) is %d, want %d", i, n, got, want)
			}
		}
	}
}

func TestP11_1Modes(t *testing.T) {
	for _, c := range []struct {
		m    api.AddressMode
		text string
	}{
		{api.Repeat, "repeat"}, {api.Mirror, "mirror"}, {api.ClampToEdge, "edge"}, {api.ClampBorder, "border"}, {1, "repeat"}, {2, "mirror"}, {3, "edge"}, {4, "border"},
	} {
		if got := Text(c.m); got != c.text || !Valid(c.m) {
			t.Errorf("mode %d is %q and valid: %t; want %q", c.m, got, Valid(c.m), c.text)
		}
	}
	for _, m := range noModes() {
		if got := Text(m); got != "?" || Valid(m) {
			t.Errorf("%d, which is no mode, is %q and valid: %t", m, got, Valid(m))
		}
	}
}

func TestP11_2Index(t *testing.T) {
	for _, c := range []struct {
		m             api.AddressMode
		i, size, want int
	}{
		{api.Mirror, -1, 4, 0}, {api.Mirror, 4, 4, 3}, {api.Repeat, -1, 4, 3},
		{api.Repeat, 0, 4, 0}, {api.Repeat, 3, 4, 3}, {api.Repeat, 4, 4, 0}, {api.Repeat, -4, 4, 0}, {api.Repeat, -5, 4, 3}, {api.Repeat, largest, 64, 63}, {api.Repeat, smallest, 64, 0}, {api.Repeat, smallest, 3, 1}, {api.Repeat, 9, 1, 0},
		{api.Mirror, 0, 4, 0}, {api.Mirror, 3, 4, 3}, {api.Mirror, 5, 4, 2}, {api.Mirror, 7, 4, 0}, {api.Mirror, 8, 4, 0}, {api.Mirror, 9, 4, 1}, {api.Mirror, -4, 4, 3}, {api.Mirror, -5, 4, 3}, {api.Mirror, -8, 4, 0}, {api.Mirror, largest, 64, 0}, {api.Mirror, smallest, 64, 0}, {api.Mirror, -7, 1, 0},
		{api.ClampToEdge, 0, 4, 0}, {api.ClampToEdge, 3, 4, 3}, {api.ClampToEdge, 4, 4, 3}, {api.ClampToEdge, -1, 4, 0}, {api.ClampToEdge, largest, 4, 3}, {api.ClampToEdge, smallest, 4, 0}, {api.ClampToEdge, 2, 4, 2}, {api.ClampToEdge, 1, 1, 0},
		{api.ClampBorder, 0, 4, 0}, {api.ClampBorder, 3, 4, 3}, {api.ClampBorder, 4, 4, -1}, {api.ClampBorder, -1, 4, -1}, {api.ClampBorder, largest, 4, -1}, {api.ClampBorder, smallest, 4, -1}, {api.ClampBorder, 63, 64, 63}, {api.ClampBorder, 64, 64, -1},
		{api.Repeat, 0, 0, -1}, {api.Mirror, 0, 65, -1}, {api.ClampToEdge, 0, -1, -1}, {api.ClampBorder, 0, largest, -1}, {api.Repeat, 5, smallest, -1}, {0, 0, 4, -1}, {5, 0, 4, -1}, {-1, 2, 4, -1}, {largest, 0, 1, -1}, {smallest, 0, 1, -1},
	} {
		if got := Index(c.m, c.i, c.size); got != c.want {
			t.Errorf("Index(%d, %d, %d) is %d, want %d", c.m, c.i, c.size, got, c.want)
		}
	}
}

// TestP11_2IndexNumbers compares Index with the rules of the modes, in exact integers.
func TestP11_2IndexNumbers(t *testing.T) {
	for _, i := range indices() {
		for _, size := range sizes() {
			for _, m := range append(modes(), noModes()...) {
				if got, want := Index(m, i, size), exactIndex(m, exact(i), size); got != want {
					t.Errorf("Index(%d, %d, %d) is %d, want %d", m, i, size, got, want)
				}
			}
		}
	}
}

func TestP11_3Period(t *testing.T) {
	for _, c := range []struct {
		m          api.AddressMode
		size, want int
	}{
		{api.Repeat, 4, 4}, {api.Mirror, 4, 8}, {api.Repeat, 1, 1}, {api.Mirror, 1, 2}, {api.Repeat, 64, 64}, {api.Mirror, 64, 128}, {api.ClampToEdge, 4, 0}, {api.ClampBorder, 4, 0},
		{api.Repeat, 65, 0}, {api.Mirror, 65, 0}, {api.Repeat, 0, 0}, {api.Mirror, 0, 0}, {api.Repeat, -1, 0}, {api.Mirror, -1, 0}, {api.Mirror, largest, 0}, {api.Mirror, smallest, 0}, {0, 4, 0}, {5, 4, 0},
	} {
		if got := Period(c.m, c.size); got != c.want {
			t.Errorf("Period(%d, %d) is %d, want %d", c.m, c.size, got, c.want)
		}
	}
	for _, size := range sizes() {
		for _, m := range append(modes(), noModes()...) {
			want := 0
			if isSide(size) && m == api.Repeat {
				want = size
			}
			if isSide(size) && m == api.Mirror {
				want = size + size
			}
			if got := Period(m, size); got != want {
				t.Errorf("Period(%d, %d) is %d, want %d", m, size, got, want)
			}
		}
	}
}

func TestP11_3Pair(t *testing.T) {
	for _, c := range []struct {
		m                  api.AddressMode
		i, size, one, next int
	}{
		{api.Repeat, 3, 4, 3, 0}, {api.Repeat, -1, 4, 3, 0}, {api.Mirror, 3, 4, 3, 3}, {api.Mirror, -1, 4, 0, 0}, {api.Mirror, 4, 4, 3, 2}, {api.ClampToEdge, -1, 4, 0, 0}, {api.ClampToEdge, 2, 4, 2, 3}, {api.ClampToEdge, 3, 4, 3, 3},
		{api.ClampBorder, -1, 4, -1, 0}, {api.ClampBorder, 3, 4, 3, -1}, {api.ClampBorder, 4, 4, -1, -1}, {api.ClampBorder, 0, 1, 0, -1}, {api.Repeat, 0, 65, -1, -1}, {0, 0, 4, -1, -1}, {5, 1, 4, -1, -1},
		// The greatest int counts as its own successor; a sum would wrap around to the smallest one, which is mapped to another index.
		{api.Repeat, largest, 64, 63, 63}, {api.Repeat, largest - 1, 64, 62, 63}, {api.Repeat, largest, 3, 1, 1}, {api.Mirror, largest, 3, 1, 1}, {api.Mirror, largest - 1, 3, 0, 1}, {api.ClampToEdge, largest, 4, 3, 3}, {api.ClampBorder, largest, 4, -1, -1},
		{api.Repeat, smallest, 64, 0, 1}, {api.ClampToEdge, smallest, 4, 0, 0}, {api.ClampBorder, smallest, 4, -1, -1},
	} {
		if one, next := Pair(c.m, c.i, c.size); one != c.one || next != c.next {
			t.Errorf("Pair(%d, %d, %d) is %d and %d, want %d and %d", c.m, c.i, c.size, one, next, c.one, c.next)
		}
	}
}

// TestP11_3PairNumbers compares Pair with the rules of the modes for an integer and the one after it.
func TestP11_3PairNumbers(t *testing.T) {
	for _, i := range indices() {
		after := new(big.Int).Add(exact(i), exact(1))
		if i == largest {
			after = exact(i)
		}
		for _, size := range sizes() {
			for _, m := range append(modes(), noModes()...) {
				want, wantNext := exactIndex(m, exact(i), size), exactIndex(m, after, size)
				if got, next := Pair(m, i, size); got != want || next != wantNext {
					t.Errorf("Pair(%d, %d, %d) is %d and %d, want %d and %d", m, i, size, got, next, want, wantNext)
				}
			}
		}
	}
}

// TestP11_4Range checks where an index is -1, and that it exists in the image otherwise.
func TestP11_4Range(t *testing.T) {
	for _, i := range indices() {
		for _, size := range sizes() {
			for _, m := range append(modes(), noModes()...) {
				got := Index(m, i, size)
				mayBeBorder := m == api.ClampBorder || !Valid(m) || !isSide(size)
				if got < -1 || got >= max(size, 0) || got == -1 && !mayBeBorder {
					t.Errorf("Index(%d, %d, %d) is %d", m, i, size, got)
				}
				if !Valid(m) && got != -1 || !isSide(size) && got != -1 {
					t.Errorf("Index(%d, %d, %d), whose arguments are invalid, is %d", m, i, size, got)
				}
			}
		}
	}
}

// TestP11_4Period checks that adding and subtracting the period does not change an index.
func TestP11_4Period(t *testing.T) {
	for i := -300; i <= 300; i++ {
		for _, size := range sizes() {
			for _, m := range modes() {
				period, want := Period(m, size), Index(m, i, size)
				for times := -3; times <= 3; times++ {
					if got := Index(m, i+times*period, size); got != want {
						t.Errorf("Index(%d, %d, %d) is %d, but with %d times the period %d it is %d", m, i, size, want, times, period, got)
					}
				}
			}
		}
	}
}
