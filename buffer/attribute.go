package buffer

import (
	"frustum/api"
	"frustum/fixed"
	"frustum/minifloat"
)

// maxOffset and maxStride limit the fields of a valid attribute.
const (
	maxOffset = 4096
	maxStride = 256
)

// maxByte is the byte of the number One in the format UNorm8x4.
const maxByte = 255

// Components returns the number of components of a format, or 0 if it is unknown.
func Components(f api.VertexFormat) int {
	switch f {
	case api.Fixed1, api.Int1:
		return 1
	case api.Fixed2, api.Half2:
		return 2
	case api.Fixed3:
		return 3
	case api.Fixed4, api.UNorm8x4, api.Half4:
		return 4
	}
	return 0
}

// Size returns the number of bytes of an attribute, or 0 if the format is unknown.
func Size(f api.VertexFormat) int {
	return Components(f) * componentSize(f)
}

// ValidAttribute reports whether the fields of an attribute are within their limits and its format is known.
func ValidAttribute(a api.Attribute) bool {
	return 0 <= a.Buffer && a.Buffer < api.MaxBuffers && 0 <= a.Offset && a.Offset <= maxOffset && 0 <= a.Stride && a.Stride <= maxStride && Size(a.Format) > 0
}

// componentSize returns the number of bytes of a component.
func componentSize(f api.VertexFormat) int {
	switch f {
	case api.UNorm8x4:
		return 1
	case api.Half2, api.Half4:
		return 2
	}
	return intSize
}

// decode returns the component of a known format that is stored as this unsigned number.
func decode(f api.VertexFormat, stored int) int {
	switch f {
	case api.UNorm8x4:
		return fixed.RoundDiv(stored*api.One, maxByte)
	case api.Half2, api.Half4:
		return minifloat.Decode(minifloat.Half(), stored)
	case api.Int1:
		return fixed.Wrap(stored)
	}
	return fixed.Saturate(fixed.Wrap(stored))
}

// encode returns a number whose lowest bytes are stored for a component of a known format.
func encode(f api.VertexFormat, x int) int {
	switch f {
	case api.UNorm8x4:
		return fixed.RoundDiv(fixed.Clamp(x, 0, api.One)*maxByte, api.One)
	case api.Half2, api.Half4:
		return minifloat.Encode(minifloat.Half(), x)
	case api.Int1:
		return fixed.Wrap(x)
	}
	return fixed.Saturate(x)
}
