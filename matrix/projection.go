package matrix

import (
	"frustum/api"
	"frustum/fixed"
)

// The limits of the arguments of projections.
const (
	minDistance = api.One / 256
	minFactor   = api.One / 256
	maxFactor   = 256 * api.One
	maxFar      = 4096 * api.One
)

// Orthographic returns the parallel projection of a box: its sides become -One and One in x and y, 0 and One in z.
func Orthographic(left, right, bottom, top, near, far int) (api.Matrix, api.Errno) {
	if !isSide(left, right) || !isSide(bottom, top) || !isSide(near, far) {
		return api.Matrix{}, api.ErrArgument
	}
	width, height, depth := fixed.Sub(right, left), fixed.Sub(top, bottom), fixed.Sub(far, near)
	return ofRows(
		api.Vec4{X: fixed.Div(2*api.One, width), W: fixed.Div(-fixed.Add(right, left), width)},
		api.Vec4{Y: fixed.Div(2*api.One, height), W: fixed.Div(-fixed.Add(top, bottom), height)},
		api.Vec4{Z: fixed.Div(api.One, depth), W: fixed.Div(-near, depth)},
		api.Vec4{W: api.One},
	), api.OK
}

// Perspective returns the projection with the center 0: the depths near and far become 0 and One in z after the division by w.
func Perspective(focal, aspect, near, far int) (api.Matrix, api.Errno) {
	// The sum does not overflow, because near is limited before.
	if !isFactor(focal) || !isFactor(aspect) || !isFactor(near) || far < near+minDistance || far > maxFar {
		return api.Matrix{}, api.ErrArgument
	}
	depth := fixed.Sub(far, near)
	return ofRows(
		api.Vec4{X: fixed.Div(focal, aspect)},
		api.Vec4{Y: focal},
		api.Vec4{Z: fixed.Div(far, depth), W: -fixed.Div(fixed.Mul(far, near), depth)},
		api.Vec4{Z: api.One},
	), api.OK
}

// isSide tells whether low and high are the bounds of a side of a box: both saturated, and low less than high by minDistance at least.
func isSide(low, high int) bool {
	// Numbers that are not saturated are excluded first, so that the difference does not overflow.
	return isSaturated(low) && isSaturated(high) && high-low >= minDistance
}

func isSaturated(x int) bool {
	return fixed.Saturate(x) == x
}

func isFactor(x int) bool {
	return minFactor <= x && x <= maxFactor
}
