package permute

import (
	"math"
	"math/big"
	"slices"
	"testing"
)

const (
	largest  = math.MaxInt
	smallest = math.MinInt
	// last is the state whose successor is 0.
	last = 0x61c8864680b583eb
)

// exact returns the integer that is written by hexadecimal digits.
func exact(digits string) *big.Int {
	n, _ := new(big.Int).SetString(digits, 16)
	return n
}

// wrapped returns n modulo 2^64.
func wrapped(n *big.Int) *big.Int {
	return new(big.Int).Mod(n, exact("10000000000000000"))
}

// mixed returns (z xor z>>shift) * factor modulo 2^64.
func mixed(z *big.Int, shift uint, factor string) *big.Int {
	z = new(big.Int).Xor(z, new(big.Int).Rsh(z, shift))
	return wrapped(z.Mul(z, exact(factor)))
}

// expectedNext returns what Next must return, step by step of P7.1 with exact integers.
func expectedNext(state uint64) (uint64, uint64) {
	s := new(big.Int).SetUint64(state)
	s = wrapped(s.Add(s, exact("9e3779b97f4a7c15")))
	z := mixed(s, 30, "bf58476d1ce4e5b9")
	z = mixed(z, 27, "94d049bb133111eb")
	z = mixed(z, 31, "1")
	return z.Uint64(), s.Uint64()
}

// expectedBelow returns what Below must return, with an exact remainder.
func expectedBelow(state uint64, n int) (int, uint64) {
	if n < 1 {
		return 0, state
	}
	z, s := expectedNext(state)
	exactZ := new(big.Int).SetUint64(z)
	return int(exactZ.Mod(exactZ, big.NewInt(int64(n))).Int64()), s
}

// expectedPerm returns what Perm must return for a length that it accepts, exchange by exchange.
func expectedPerm(n int, state uint64) ([]int, uint64) {
	var list []int
	for len(list) < n {
		list = append(list, len(list))
	}
	for i := n - 1; i > 0; i-- {
		at, after := expectedBelow(state, i+1)
		item, other := list[i], list[at]
		list[i], list[at], state = other, item, after
	}
	return list, state
}

// states returns the smallest and the largest state, those next to them, those around the ones whose sums wrap around, and arbitrary ones.
func states(count int) []uint64 {
	var result []uint64
	for near := range uint64(4) {
		for _, state := range []uint64{0, 1 << 63, last, 1 << 32, 1 << 31, 0x9e3779b97f4a7c15} {
			result = append(result, state+near, state-near-1)
		}
	}
	state := uint64(1)
	for range count {
		state = state*6364136223846793005 + 1442695040888963407
		result = append(result, state, state>>(state>>58))
	}
	return result
}

// numbers returns 1 to some hundreds, the powers of two and the numbers next to them, and the largest int.
func numbers() []int {
	var result []int
	for n := 1; n <= 600; n++ {
		result = append(result, n)
	}
	for shift := 1; shift < 63; shift++ {
		result = append(result, 1<<shift-1, 1<<shift, 1<<shift+1)
	}
	return append(result, largest-2, largest-1, largest)
}

func checkBelow(t *testing.T, state uint64, n, want int, wantState uint64) {
	t.Helper()
	if got, after := Below(state, n); got != want || after != wantState {
		t.Errorf("Below(%#x, %d) is %d, %#x, want %d, %#x", state, n, got, after, want, wantState)
	}
}

func checkPerm(t *testing.T, n int, state uint64, want []int, wantState uint64) {
	t.Helper()
	if got, after := Perm(n, state); !slices.Equal(got, want) || after != wantState {
		t.Errorf("Perm(%d, %#x) is %s, %#x, want %s, %#x", n, state, shown(got), after, shown(want), wantState)
	}
}

func TestP7_1Next(t *testing.T) {
	for _, c := range []struct{ state, number, after uint64 }{
		{0, 0xe220a8397b1dcdaf, 0x9e3779b97f4a7c15},
		{0x9e3779b97f4a7c15, 0x6e789e6aa1b965f4, 0x3c6ef372fe94f82a},
		{0x3c6ef372fe94f82a, 0x06c45d188009454f, 0xdaa66d2c7ddf743f},
		{1234567, 6457827717110365317, 0x9e3779b97f5d529c},
		{last, 0, 0},
		{last - 1, 0xb4d055fcf2cbbd7b, math.MaxUint64},
		{last + 1, 0x5692161d100b05e5, 1},
		{1, 0x910a2dec89025cc1, 0x9e3779b97f4a7c16},
		{1 << 63, 0x481ec0a212a9f3db, 0x1e3779b97f4a7c15},
		{math.MaxUint64, 0xe4d971771b652c20, 0x9e3779b97f4a7c14},
	} {
		if number, after := Next(c.state); number != c.number || after != c.after {
			t.Errorf("Next(%#x) is %#x, %#x, want %#x, %#x", c.state, number, after, c.number, c.after)
		}
	}
}

// TestP7_1NextStates compares Next with exact integers, from many states and from those that follow one another.
func TestP7_1NextStates(t *testing.T) {
	check := func(state uint64) uint64 {
		want, wantState := expectedNext(state)
		number, after := Next(state)
		if number != want || after != wantState {
			t.Errorf("Next(%#x) is %#x, %#x, want %#x, %#x", state, number, after, want, wantState)
		}
		return wantState
	}
	for _, state := range states(5000) {
		check(state)
	}
	for shift := range 64 {
		check(1 << shift)
		check(1<<shift - 1)
		check(last + 1<<shift)
		check(last - 1<<shift)
	}
	state := uint64(0)
	for range 5000 {
		state = check(state)
	}
}

func TestP7_1Below(t *testing.T) {
	for _, c := range []struct {
		state uint64
		n     int
		want  int
	}{
		// The number of state 0 is 0xe220a8397b1dcdaf, which is beyond the largest int.
		{0, 1, 0}, {0, 2, 1}, {0, 16, 15}, {0, 256, 0xaf}, {0, 1 << 32, 0x7b1dcdaf}, {0, 1 << 62, 0x2220a8397b1dcdaf}, {0, largest, 0x6220a8397b1dcdb0}, {0, 10, 5}, {0, 1000, 535},
		// The number of this state is 0x06c45d188009454f.
		{0x3c6ef372fe94f82a, 1, 0}, {0x3c6ef372fe94f82a, 2, 1}, {0x3c6ef372fe94f82a, 256, 0x4f}, {0x3c6ef372fe94f82a, 1 << 62, 0x06c45d188009454f}, {0x3c6ef372fe94f82a, largest, 0x06c45d188009454f},
		{last, 1, 0}, {last, 7, 0}, {last, largest, 0}, {1234567, 10, 7}, {1234567, 100000, 65317},
	} {
		_, after := expectedNext(c.state)
		checkBelow(t, c.state, c.n, c.want, after)
	}
}

func TestP7_1BelowNumbers(t *testing.T) {
	for _, n := range numbers() {
		for _, state := range states(20) {
			want, wantState := expectedBelow(state, n)
			checkBelow(t, state, n, want, wantState)
		}
	}
}

func TestP7_1BelowNothing(t *testing.T) {
	for _, n := range []int{0, -1, -2, -3, -10, -256, -4096, -1 << 31, -1 << 32, 1 - 1<<32, -1 << 62, -largest, smallest + 1, smallest} {
		for _, state := range states(50) {
			checkBelow(t, state, n, 0, state)
		}
	}
}

func TestP7_2Perm(t *testing.T) {
	for _, c := range []struct {
		n         int
		state     uint64
		want      []int
		wantState uint64
	}{
		{1, 9, []int{0}, 9}, {1, 0, []int{0}, 0}, {1, math.MaxUint64, []int{0}, math.MaxUint64}, {1, last, []int{0}, last},
		// The number of state 0 is odd, so that element 1 is exchanged with itself.
		{2, 0, []int{0, 1}, 0x9e3779b97f4a7c15}, {2, last, []int{1, 0}, 0},
		// The number of state 0 modulo 3 is 1, and that of the state after it is even.
		{3, 0, []int{2, 0, 1}, 0x3c6ef372fe94f82a},
	} {
		checkPerm(t, c.n, c.state, c.want, c.wantState)
	}
}

func TestP7_2PermLengths(t *testing.T) {
	lengths := []int{500, 1000, 1023, 1024, 1025, 2048, 4000, 4094, 4095, 4096}
	for n := 1; n <= 130; n++ {
		lengths = append(lengths, n)
	}
	for _, n := range lengths {
		for i, state := range states(10) {
			if n <= 20 || i%7 == 0 {
				want, wantState := expectedPerm(n, state)
				checkPerm(t, n, state, want, wantState)
			}
		}
	}
}

// TestP7_2PermChain draws permutations from the last state of the one before.
func TestP7_2PermChain(t *testing.T) {
	state, wantState := uint64(7), uint64(7)
	for n := 1; n <= 60; n++ {
		var want []int
		want, wantState = expectedPerm(n, state)
		checkPerm(t, n, state, want, wantState)
		_, state = Perm(n, state)
	}
}

func TestP7_2PermNothing(t *testing.T) {
	for _, n := range []int{0, -1, -2, -4096, -4097, 4097, 4098, 5000, 8192, 1 << 16, 1<<32 + 1, 1<<32 + 4096, 1 - 1<<32, 1 << 62, largest - 1, largest, -largest, smallest, smallest + 1, smallest + 4096} {
		for _, state := range states(10) {
			if got, after := Perm(n, state); got != nil || after != state {
				t.Errorf("Perm(%d, %#x) is %s, %#x", n, state, shown(got), after)
			}
		}
	}
}

// TestP7_2PermAll checks that each permutation of a few elements is reached from some state.
func TestP7_2PermAll(t *testing.T) {
	for _, c := range []struct{ n, count int }{{1, 1}, {2, 2}, {3, 6}, {4, 24}, {5, 120}} {
		reached := map[[5]int]bool{}
		for state := range uint64(5000) {
			list, _ := Perm(c.n, state)
			var key [5]int
			copy(key[:], list)
			reached[key] = true
		}
		if len(reached) != c.count {
			t.Errorf("%d permutations of %d elements are reached, want %d", len(reached), c.n, c.count)
		}
	}
}

// TestP7_2PermMemory checks that two results for the same arguments are not the same memory.
func TestP7_2PermMemory(t *testing.T) {
	for _, n := range []int{1, 2, 3, 100, 4096} {
		first, state := Perm(n, 5)
		want := slices.Clone(first)
		for i := range first {
			first[i] = -1
		}
		checkPerm(t, n, 5, want, state)
	}
}

// TestP7_4Perm checks that Perm returns permutations.
func TestP7_4Perm(t *testing.T) {
	for n := 1; n <= 4096; n = n + 1 + n/40 {
		for _, state := range states(5) {
			list, _ := Perm(n, state)
			if len(list) != n || !IsPermutation(list) || !contains(list, n) {
				t.Errorf("Perm(%d, %#x) is not a permutation: %s", n, state, shown(list))
			}
		}
	}
	list, _ := Perm(4096, 1)
	if !IsPermutation(list) || !contains(list, 4096) {
		t.Errorf("Perm(4096, 1) is not a permutation: %s", shown(list))
	}
}

// contains reports whether each number from 0 to n - 1 is in a list.
func contains(list []int, n int) bool {
	sorted := slices.Sorted(slices.Values(list))
	for i := range n {
		if i >= len(sorted) || sorted[i] != i {
			return false
		}
	}
	return true
}
