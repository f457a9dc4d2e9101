package tiles

import (
	"frustum/api"
	"frustum/binning"
	"frustum/fragments"
	"frustum/output"
)

// window is a rectangle of the pixels of a target.
type window struct{ x, y, width, height int }

// draw draws triangles in a tile of a target, which belongs to the caller and matches the pipeline, and returns the number of samples written.
func draw(p api.Pipeline, b api.Bindings, t api.Target, triangles []api.Triangle, tile int) int {
	x, y, width, height := binning.TileRect(t.Width, t.Height, tile)
	w := window{x, y, width, height}
	// Each fragment copies the target, so that it is applied to a small one.
	part, written := w.cut(t), 0
	for _, triangle := range triangles {
		list := fragments.Generate(triangle, w.x, w.y, w.width, w.height, t.Samples)
		if len(list) == 0 {
			continue
		}
		// The pipeline is valid, so that there is no error.
		colors, discarded, _ := fragments.Shade(p.Fragment, b, list)
		for i, f := range list {
			f.X, f.Y = f.X-w.x, f.Y-w.y
			count := 0
			part, count = output.Fragment(p, part, f, colors[i], discarded[i])
			written += count
		}
	}
	w.paste(t, part)
	return written
}

// cut returns the target that consists of the pixels of a window.
func (w window) cut(t api.Target) api.Target {
	part := api.Target{Width: w.width, Height: w.height, Samples: t.Samples, Depth: t.Depth}
	for _, m := range t.Color {
		data := cutRows(w, m.Data, t.Width, texelSize(m))
		part.Color = append(part.Color, api.Image{Format: m.Format, Width: w.width, Height: w.height, Data: data})
	}
	part.Depths = cutRows(w, t.Depths, t.Width, t.Samples)
	part.Stencils = cutRows(w, t.Stencils, t.Width, t.Samples)
	return part
}

// paste replaces the pixels of a window.
func (w window) paste(t, part api.Target) {
	for i, m := range t.Color {
		pasteRows(w, m.Data, part.Color[i].Data, t.Width, texelSize(m))
	}
	pasteRows(w, t.Depths, part.Depths, t.Width, t.Samples)
	pasteRows(w, t.Stencils, part.Stencils, t.Width, t.Samples)
}

// cutRows returns the elements of the pixels of a window, from a list with a number of elements for each pixel of a target of this width.
func cutRows[T any](w window, list []T, width, size int) []T {
	var rows []T
	for row := range w.height {
		begin := ((w.y+row)*width + w.x) * size
		rows = append(rows, list[begin:begin+w.width*size]...)
	}
	return rows
}

// pasteRows replaces the elements of the pixels of a window by rows of them.
func pasteRows[T any](w window, list, rows []T, width, size int) {
	length := w.width * size
	for row := range w.height {
		begin := ((w.y+row)*width + w.x) * size
		copy(list[begin:begin+length], rows[row*length:])
	}
}

// texelSize returns the number of bytes of a texel of a valid image.
func texelSize(m api.Image) int {
	return len(m.Data) / (m.Width * m.Height)
}
