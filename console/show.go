package console

import (
	"strings"

	"frustum/api"
	"frustum/audit"
	"frustum/format"
	"frustum/history"
	"frustum/target"
)

// soundLine is the output of check if all checks pass.
const soundLine = "sound\n"

// show executes a command that changes nothing.
func (c *Console) show(name string, n []int) (string, api.Errno) {
	switch name {
	case "color", "depth":
		return c.showSample(name, n)
	case "query":
		result, found := c.device.Query(n[0])
		if !found {
			return "", api.ErrNotFound
		}
		return numbersLine(result), api.OK
	case "hash":
		return lineOf(format.FormatHash(c.device.Hash())), api.OK
	case "history":
		return c.showHistory(n)
	}
	// Only check is left.
	if failed := audit.Device(c.device); failed != "" {
		return lineOf(failed), api.OK
	}
	return soundLine, api.OK
}

// showSample prints the color, or the depth and the stencil value, of a sample: ID, x, y and sample.
func (c *Console) showSample(name string, n []int) (string, api.Errno) {
	t, found := c.device.Target(n[0])
	x, y, sample := n[1], n[2], n[3]
	switch {
	case !found:
		return "", api.ErrNotFound
	case target.Index(t, x, y, sample) < 0:
		return "", api.ErrRange
	case name == "depth":
		return numbersLine(target.Depth(t, x, y, sample), target.Stencil(t, x, y, sample)), api.OK
	}
	color := target.Color(t, x, y, sample)
	return numbersLine(color.X, color.Y, color.Z, color.W), api.OK
}

// showHistory prints the events of a pixel while the queue would be executed: ID, x and y.
func (c *Console) showHistory(n []int) (string, api.Errno) {
	events, code := history.Pixel(c.device, c.queue, n[0], n[1], n[2])
	if code != api.OK {
		return "", code
	}
	var output strings.Builder
	for _, e := range events {
		output.WriteString(lineOf(history.Text(e)))
	}
	return output.String(), api.OK
}
