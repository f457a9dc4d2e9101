package sampler

import (
	"math/big"
	"testing"

	"frustum/api"
)

// exactLog2 returns what Log2 must return, in exact integers.
func exactLog2(x *big.Int) int {
	if x.Sign() < 1 {
		return 0
	}
	limit := new(big.Int).Lsh(big.NewInt(1), 40)
	if x.Cmp(limit) > 0 {
		x = limit
	}
	power, exponent := big.NewInt(1), 0
	for new(big.Int).Lsh(power, 1).Cmp(x) <= 0 {
		power, exponent = new(big.Int).Lsh(power, 1), exponent+1
	}
	// The nearest integer to n/d is the largest one that is not greater than (2n + d)/2d.
	n := new(big.Int).Mul(new(big.Int).Sub(x, power), big.NewInt(one))
	doubled := new(big.Int).Add(new(big.Int).Lsh(n, 1), power)
	nearest := doubled.Div(doubled, new(big.Int).Lsh(power, 1))
	return (exponent-16)*one + int(nearest.Int64())
}

func TestP13_4Log2Examples(t *testing.T) {
	for _, c := range []struct{ x, want int }{
		{2 * one, one}, {3 * one, one + one/2}, {one, 0}, {one / 2, -one}, {one / 4, -2 * one}, {3 * one / 4, -one / 2}, {1, -16 * one}, {2, -15 * one}, {3, -15*one + one/2}, {0, 0}, {-1, 0}, {-one, 0}, {smallest, 0},
		{one + 1, 1}, {one - 1, -2}, {2*one + 1, one + 1}, {2*one - 1, one - 1}, {4*one - 1, 2 * one}, {4*one - 2, 2*one - 1}, {4*one + 1, 2 * one}, {4*one + 2, 2*one + 1}, {64 * one, 6 * one},
		{1 << 40, 24 * one}, {1<<40 + 1, 24 * one}, {1<<41 - 1, 24 * one}, {1 << 41, 24 * one}, {3 << 39, 24 * one}, {1<<40 - 1, 24 * one}, {3 << 38, 23*one + one/2}, {largest, 24 * one}, {1 << 62, 24 * one},
	} {
		if got := Log2(c.x); got != c.want {
			t.Errorf("Log2(%d) is %d, want %d", c.x, got, c.want)
		}
	}
}

func TestP13_4Log2(t *testing.T) {
	check := func(x int) {
		t.Helper()
		if got, want := Log2(x), exactLog2(big.NewInt(int64(x))); got != want {
			t.Errorf("Log2(%d) is %d, want %d", x, got, want)
		}
	}
	for x := -2; x <= 70000; x++ {
		check(x)
	}
	for shift := range 63 {
		for near := -3; near <= 3; near++ {
			check(1<<shift + near)
			check(3<<shift/2 + near)
			check(-1<<shift + near)
		}
	}
	// Between two powers of two the rounding limits are narrow from 2^17 on.
	for shift := 17; shift < 42; shift++ {
		for n := range 2000 {
			check(1<<shift + n*(1<<shift/2000) + n%3)
		}
	}
	for near := range 3 {
		check(smallest + near)
		check(largest - near)
	}
}

// exactFootprint returns what Footprint must return, in exact integers.
func exactFootprint(width, height int, ddx, ddy api.Vec2) int {
	longest := big.NewInt(0)
	for _, c := range []struct{ x, side int }{{ddx.X, width}, {ddx.Y, height}, {ddy.X, width}, {ddy.Y, height}} {
		x, side := max(-api.MaxValue, min(c.x, api.MaxValue)), max(1, min(c.side, 64))
		product := new(big.Int).Mul(big.NewInt(int64(x)), big.NewInt(int64(side)))
		if product.Abs(product).Cmp(longest) > 0 {
			longest = product
		}
	}
	return max(0, exactLog2(longest))
}

func checkFootprint(t *testing.T, width, height int, ddx, ddy api.Vec2) {
	t.Helper()
	if got, want := Footprint(width, height, ddx, ddy), exactFootprint(width, height, ddx, ddy); got != want {
		t.Errorf("Footprint(%d, %d, %v, %v) is %d, want %d", width, height, ddx, ddy, got, want)
	}
}

func TestP13_4FootprintExamples(t *testing.T) {
	for _, c := range []struct {
		width, height int
		ddx, ddy      api.Vec2
		want          int
	}{
		{4, 4, api.Vec2{X: one / 4}, api.Vec2{}, 0}, {4, 4, api.Vec2{X: one / 2}, api.Vec2{}, one}, {4, 4, api.Vec2{Y: one / 2}, api.Vec2{}, one}, {4, 4, api.Vec2{}, api.Vec2{X: one / 2}, one}, {4, 4, api.Vec2{}, api.Vec2{Y: one / 2}, one},
		{8, 2, api.Vec2{X: one / 2, Y: one / 2}, api.Vec2{}, 2 * one}, {2, 8, api.Vec2{X: one / 2}, api.Vec2{}, 0}, {2, 8, api.Vec2{Y: one / 2}, api.Vec2{}, 2 * one}, {8, 2, api.Vec2{}, api.Vec2{X: one / 2}, 2 * one}, {8, 2, api.Vec2{}, api.Vec2{Y: one / 2}, 0}, {2, 8, api.Vec2{}, api.Vec2{Y: one / 2}, 2 * one},
		{8, 8, api.Vec2{X: -one / 2}, api.Vec2{}, 2 * one}, {8, 8, api.Vec2{X: -one / 2, Y: one / 4}, api.Vec2{X: one / 8, Y: -one / 16}, 2 * one}, {8, 8, api.Vec2{X: one / 8, Y: -one / 4}, api.Vec2{X: one / 16, Y: -3 * one / 8}, one + one/2},
		{64, 64, api.Vec2{}, api.Vec2{}, 0}, {64, 64, api.Vec2{X: 1}, api.Vec2{}, 0}, {64, 64, api.Vec2{X: one}, api.Vec2{}, 6 * one}, {1, 1, api.Vec2{X: one}, api.Vec2{Y: one - 1}, 0}, {1, 1, api.Vec2{X: 3 * one}, api.Vec2{}, one + one/2},
		{0, 0, api.Vec2{X: 2 * one}, api.Vec2{}, one}, {-5, smallest, api.Vec2{Y: 2 * one}, api.Vec2{}, one}, {65, 1000, api.Vec2{X: one}, api.Vec2{}, 6 * one}, {largest, 1, api.Vec2{X: one}, api.Vec2{}, 6 * one}, {1, largest, api.Vec2{}, api.Vec2{Y: one}, 6 * one},
		// MaxValue is 2^29 - 1, and its fraction above 2^28 is less than One by less than half a unit.
		{1, 1, api.Vec2{X: largest}, api.Vec2{}, 13 * one}, {64, 1, api.Vec2{X: smallest}, api.Vec2{}, 19 * one}, {64, 64, api.Vec2{X: smallest, Y: largest}, api.Vec2{X: smallest, Y: smallest}, 19 * one}, {1, 1, api.Vec2{X: 1 << 28}, api.Vec2{}, 12 * one}, {1, 1, api.Vec2{}, api.Vec2{Y: 1 << 40}, 13 * one},
	} {
		if got := Footprint(c.width, c.height, c.ddx, c.ddy); got != c.want {
			t.Errorf("Footprint(%d, %d, %v, %v) is %d, want %d", c.width, c.height, c.ddx, c.ddy, got, c.want)
		}
	}
}

// footprintSizes returns sides inside and outside of [1, MaxSize].
func footprintSizes() []int {
	return []int{1, 2, 3, 7, 8, 33, 63, 64, 0, -1, -64, 65, 66, 128, 1 << 32, 1<<32 + 8, 8 - 1<<32, 1 << 62, largest, smallest}
}

// TestP13_4Footprint makes each of the four products the largest, with components of both signs.
func TestP13_4Footprint(t *testing.T) {
	components := []int{0, 1, one/4 - 1, one / 4, one/4 + 1, one / 3, one / 2, one, one + 1, 5 * one, 1000 * one, api.MaxValue - 1, api.MaxValue, api.MaxValue + 1, 1 << 40, 1 << 58, 1 << 62, largest}
	for _, width := range footprintSizes() {
		for _, height := range footprintSizes() {
			for i, x := range components {
				for _, signed := range []int{x, -x, -x - 1} {
					smaller := components[i/2]
					for place := range 4 {
						c := [4]int{smaller, -smaller, smaller / 2, -smaller / 3}
						c[place] = signed
						checkFootprint(t, width, height, api.Vec2{X: c[0], Y: c[1]}, api.Vec2{X: c[2], Y: c[3]})
						alone := [4]int{}
						alone[place] = signed
						checkFootprint(t, width, height, api.Vec2{X: alone[0], Y: alone[1]}, api.Vec2{X: alone[2], Y: alone[3]})
					}
				}
			}
		}
	}
}

func TestP13_4FootprintArbitrary(t *testing.T) {
	state := uint64(9)
	next := func(shift int) int {
		state = state*6364136223846793005 + 1442695040888963407
		return int(state^state>>29) >> shift
	}
	for n := range 20000 {
		width, height := 1+next(0)&63, 1+next(0)&63
		checkFootprint(t, width, height, api.Vec2{X: next(36 + n%28), Y: next(36 + n%28)}, api.Vec2{X: next(36 + n%28), Y: next(36 + n%28)})
		checkFootprint(t, next(n%64), next(n%64), api.Vec2{X: next(n % 64), Y: next(n % 64)}, api.Vec2{X: next(n % 64), Y: next(n % 64)})
	}
}
