package command

import (
	"math"

	"frustum/api"
	"frustum/sampler"
)

// maxStencil is the greatest stencil value.
const maxStencil = 255

// Check returns the first error of a command by itself, or OK.
func Check(c api.Command) api.Errno {
	switch {
	case !isKind(c.Kind):
		return api.ErrKind
	case !hasFieldsInRange(c):
		return api.ErrRange
	case !Equal(withoutFields(c), api.Command{Kind: c.Kind}):
		return api.ErrArgument
	}
	return api.OK
}

// hasFieldsInRange reports whether the fields that the kind of a command uses are in range.
func hasFieldsInRange(c api.Command) bool {
	switch c.Kind {
	case api.BindPipeline, api.BeginQuery, api.EndQuery:
		return isID(c.ID)
	case api.BindVertex, api.BindBuffer:
		return isWithin(c.Slot, 0, api.MaxBuffers-1) && isID(c.ID)
	case api.BindIndex:
		return isID(c.ID) && api.NoIndex <= c.Index && c.Index <= api.Index32
	case api.BindTexture:
		return isWithin(c.Slot, 0, api.MaxTextures-1) && isID(c.ID) && sampler.Valid(c.Sampler)
	case api.SetUniforms:
		return isWithin(c.First, 0, api.MaxUniforms-1) && isWithin(len(c.Values), 1, api.MaxUniforms-c.First) && areWords(c.Values)
	case api.BeginPass:
		return isID(c.ID) && (c.LoadContents || isClear(c))
	case api.Draw:
		return isWithin(c.First, 0, api.MaxBytes) && isWithin(c.Count, 1, api.MaxIndices)
	case api.Barrier:
		return isID(c.ID) && isState(c.From) && isState(c.To) && c.To != api.Undefined
	case api.CopyToImage, api.Resolve:
		return isID(c.ID) && isID(c.Slot)
	}
	return true
}

// withoutFields returns a command in which the fields that its kind uses are zero.
func withoutFields(c api.Command) api.Command {
	switch c.Kind {
	case api.BindPipeline, api.BeginQuery, api.EndQuery:
		c.ID = 0
	case api.BindVertex, api.BindBuffer, api.CopyToImage, api.Resolve:
		c.Slot, c.ID = 0, 0
	case api.BindIndex:
		c.ID, c.Index = 0, 0
	case api.BindTexture:
		c.Slot, c.ID, c.Sampler = 0, 0, api.Sampler{}
	case api.SetUniforms:
		c.First, c.Values = 0, nil
	case api.BeginPass:
		if !c.LoadContents {
			c.Clear, c.ClearDepth, c.ClearStencil = api.Vec4{}, 0, 0
		}
		c.ID, c.LoadContents = 0, false
	case api.Draw:
		c.First, c.Count = 0, 0
	case api.Barrier:
		c.ID, c.From, c.To = 0, 0, 0
	}
	return c
}

// isWithin reports whether a number is in the range from low to high.
func isWithin(n, low, high int) bool {
	return low <= n && n <= high
}

// isID reports whether a number is that of an object of a device.
func isID(n int) bool {
	return isWithin(n, 0, api.MaxSlots-1)
}

// isState reports whether a resource state is known.
func isState(s api.ResourceState) bool {
	return api.Undefined <= s && s <= api.CopyTarget
}

// areWords reports whether all numbers have at most 32 bits.
func areWords(values []int) bool {
	for _, x := range values {
		if !isWithin(x, math.MinInt32, math.MaxInt32) {
			return false
		}
	}
	return true
}

// isClear reports whether the values with which a pass clears its target are in range.
func isClear(c api.Command) bool {
	for _, x := range [...]int{c.Clear.X, c.Clear.Y, c.Clear.Z, c.Clear.W, c.ClearDepth} {
		if !isWithin(x, 0, api.One) {
			return false
		}
	}
	return isWithin(c.ClearStencil, 0, maxStencil)
}
