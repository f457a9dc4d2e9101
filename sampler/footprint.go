package sampler

import (
	"math/bits"

	"frustum/api"
	"frustum/fixed"
)

// maxLog2 limits the argument of Log2, so that its products do not overflow.
const maxLog2 = 1 << 40

// Footprint returns the level of detail at which a step of one pixel is at most about one texel long, for the differences of texture coordinates per pixel.
func Footprint(width, height int, ddx, ddy api.Vec2) int {
	columns, rows := fixed.Clamp(width, 1, api.MaxSize), fixed.Clamp(height, 1, api.MaxSize)
	longest := max(length(ddx.X)*columns, length(ddx.Y)*rows, length(ddy.X)*columns, length(ddy.Y)*rows)
	return max(0, Log2(longest))
}

// Log2 returns the logarithm of the number x/One, exact for powers of two and linear between them, or 0 for an x that is not positive.
func Log2(x int) int {
	if x < 1 {
		return 0
	}
	x = min(x, maxLog2)
	exponent := bits.Len(uint(x)) - 1
	power := 1 << exponent
	return (exponent-fractionBits)*api.One + fixed.RoundDiv((x-power)*api.One, power)
}

// length returns the absolute value of a saturated component.
func length(x int) int {
	x = fixed.Saturate(x)
	return max(x, -x)
}
