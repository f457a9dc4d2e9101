package history_test

import (
	"fmt"
	"slices"
	"testing"

	"frustum/api"
	"frustum/device"
	"frustum/fragments"
	"frustum/frontend"
	"frustum/history"
	"frustum/output"
	"frustum/pipeline"
	"frustum/target"
)

// prefix returns a device after the commands before one of them, in a pass or not.
func prefix(t *testing.T, d *device.Device, list []api.Command, at int) *device.Device {
	t.Helper()
	short := slices.Clone(list[:at])
	inside, active := false, -1
	for _, c := range short {
		switch c.Kind {
		case api.BeginPass, api.EndPass:
			inside = c.Kind == api.BeginPass
		case api.BeginQuery:
			active = c.ID
		case api.EndQuery:
			active = -1
		}
	}
	if active >= 0 {
		short = append(short, endQuery(active))
	}
	if inside {
		short = append(short, end)
	}
	after := d.Clone()
	if _, code := after.Submit(short); code != api.OK {
		t.Fatalf("the test is wrong: %v has error %d", short, code)
	}
	return after
}

// drawn returns the pipeline, the bindings and the triangles of a draw on a device that has executed the commands before it.
func drawn(d *device.Device, before []api.Command, c api.Command) (api.Pipeline, api.Bindings, []api.Triangle) {
	b := api.Bindings{Uniforms: make([]int, 64), Textures: make([]api.Texture, 4), Samplers: make([]api.Sampler, 4)}
	p, vertices := api.Pipeline{}, make([][]byte, 4)
	index := api.Command{Index: api.NoIndex, ID: -1}
	for _, c := range before {
		switch c.Kind {
		case api.BindPipeline:
			p, _ = d.Pipeline(c.ID)
		case api.BindVertex:
			vertices[c.Slot] = d.Buffer(c.ID)
		case api.BindTexture:
			b.Textures[c.Slot], _ = d.Texture(c.ID)
			b.Samplers[c.Slot] = c.Sampler
		case api.BindIndex:
			index = c
		case api.SetUniforms:
			copy(b.Uniforms[c.First:], c.Values)
		}
	}
	triangles, _ := frontend.Triangles(p, b, vertices, frontend.Indices(d.Buffer(index.ID), index.Index, c.First, c.Count))
	return p, b, triangles
}

// expected is a second reading of P51.1, which executes the commands before each draw again, and draws in the whole target.
func expected(t *testing.T, d *device.Device, list []api.Command, id, x, y int) []api.Event {
	t.Helper()
	var events []api.Event
	inside, draws := -1, 0
	for i, c := range list {
		switch {
		case c.Kind == api.BeginPass:
			inside = c.ID
			if c.ID == id && !c.LoadContents {
				before, after := targetOf(t, prefix(t, d, list, i), id), targetOf(t, prefix(t, d, list, i+1), id)
				for sample := range before.Samples {
					events = append(events, api.Event{Draw: -1, Primitive: -1, Sample: sample, Outcome: api.Cleared, Color: c.Clear, Before: target.Color(before, x, y, sample), After: target.Color(after, x, y, sample)})
				}
			}
		case c.Kind == api.Draw && inside == id:
			events = append(events, drawEvents(t, prefix(t, d, list, i), list[:i], c, id, draws, x, y)...)
		}
		if c.Kind == api.Draw {
			draws++
		}
	}
	return events
}

// drawEvents returns the events of a draw on a device that has executed the commands before it.
func drawEvents(t *testing.T, d *device.Device, before []api.Command, c api.Command, id, number, x, y int) []api.Event {
	t.Helper()
	var events []api.Event
	u := targetOf(t, d, id)
	p, b, triangles := drawn(d, before, c)
	for _, triangle := range triangles {
		list := fragments.Generate(triangle, 0, 0, wide, high, u.Samples)
		colors, discarded, _ := fragments.Shade(p.Fragment, b, list)
		for k, f := range list {
			for sample := range u.Samples {
				after, outcome := output.Sample(p, u, f, sample, colors[k], discarded[k])
				if outcome != 0 && f.X == x && f.Y == y {
					events = append(events, api.Event{Draw: number, Primitive: triangle.Primitive, Sample: sample, Outcome: outcome, Color: colors[k], Before: target.Color(u, x, y, sample), After: target.Color(after, x, y, sample), Depth: f.Depths[sample]})
				}
				u = after
			}
		}
	}
	return events
}

func targetOf(t *testing.T, d *device.Device, id int) api.Target {
	t.Helper()
	u, found := d.Target(id)
	if !found {
		t.Fatalf("there is no target %d", id)
	}
	return u
}

// written returns all that can change in a device.
func written(d *device.Device) string {
	text := fmt.Sprint(d.States(), d.Hash())
	for id := range 8 {
		n, found := d.Query(id)
		text += fmt.Sprint(n, found)
	}
	return text
}

// check compares Pixel with its second reading, and with the target after all commands.
func check(t *testing.T, d *device.Device, list []api.Command, id, x, y int) []api.Event {
	t.Helper()
	before := written(d) + fmt.Sprint(list)
	got, code := history.Pixel(d, list, id, x, y)
	want := expected(t, d, list, id, x, y)
	if code != api.OK || !slices.Equal(got, want) {
		t.Fatalf("the events of (%d, %d) are %v, error %d, want %v", x, y, got, code, want)
	}
	final := targetOf(t, prefix(t, d, list, len(list)), id)
	first := targetOf(t, d, id)
	for sample := range final.Samples {
		color, found := target.Color(first, x, y, sample), false
		for _, e := range got {
			if e.Sample != sample {
				continue
			}
			if found = true; e.Before != color {
				t.Fatalf("before %v the color was %v", e, color)
			}
			if color = e.After; e.Outcome != api.Written && e.Outcome != api.Cleared && e.Before != e.After {
				t.Fatalf("%v changes the color", e)
			}
		}
		if color != target.Color(final, x, y, sample) {
			t.Fatalf("the color of sample %d is %v, and after the last event %v", sample, target.Color(final, x, y, sample), color)
		}
		if c, exists := history.Final(got, sample); exists != found || exists && c != color {
			t.Fatalf("Final of sample %d is %v, %t", sample, c, exists)
		}
	}
	if written(d)+fmt.Sprint(list) != before {
		t.Fatal("an argument was changed")
	}
	return got
}

func TestP51_1Cleared(t *testing.T) {
	d := newWorld(t)
	for _, list := range [][]api.Command{{begin(0), end}, {begin(1), end, begin(0), end, begin(1), end}, {bind(0), begin(0), end}} {
		events := check(t, d, list, 0, 5, 4)
		if len(events) != 4 || history.Count(events, api.Cleared) != 4 {
			t.Errorf("the events are %v", events)
		}
		for i, e := range events {
			if e.Sample != i || e.Draw != -1 || e.Primitive != -1 || e.Color != (api.Vec4{X: one / 3, Y: one / 5, W: one}) || e.After != (api.Vec4{X: 21845, Y: 13107, W: one}) || e.Depth != 0 {
				t.Errorf("event %d is %v", i, e)
			}
		}
	}
	for _, list := range [][]api.Command{nil, {}, {load(0), end}, {begin(1), end}, {bind(1), bindVertex(0, 0), begin(1), draw(0, 12), end}} {
		if events := check(t, d, list, 0, 5, 4); len(events) > 0 {
			t.Errorf("the events are %v", events)
		}
	}
	if events := check(t, d, []api.Command{begin(0), end, begin(0), end}, 0, 0, 0); len(events) != 8 || events[4].Before != events[0].After {
		t.Errorf("the events of two passes are %v", events)
	}
}

// TestP51_1Outcomes has a pixel with each of the outcomes.
func TestP51_1Outcomes(t *testing.T) {
	d := device.New()
	u, _ := target.New(1, 1, 2, api.RGBA8, api.D24S8)
	d.SetTarget(0, u)
	d.SetBuffer(0, numbers(-one, -one, one/2, one, 3*one, -one, one/2, one, -one, 3*one, one/2, one))
	p := pipeline.Default()
	p.Viewport.Width, p.Viewport.Height, p.Samples, p.DepthFormat = 1, 1, 2, api.D24S8
	p.Fragment = compile(t, "fragment; uniform c: vec4; uniform gone: int; out o: vec4; main { o = c; if (gone > 0) { discard; } }")
	d.SetPipeline(0, p)
	p.Depth = api.DepthState{Test: true, Write: true, Compare: api.LessThan}
	d.SetPipeline(1, p)
	p.Stencil.Test, p.Stencil.Front.Compare = true, api.Never
	p.Stencil.Front.Fail = api.ReplaceValue
	d.SetPipeline(2, p)
	list := []api.Command{bindVertex(0, 0), bind(0), begin(0), uniforms(0, 2*one, one, 0, one, 1), draw(0, 3), uniforms(4, 0), draw(0, 3), bind(1), uniforms(0, 0), draw(0, 3), draw(0, 3), bind(2), draw(0, 3), end}
	events, code := history.Pixel(d, list, 0, 0, 0)
	if code != api.OK || len(events) != 12 {
		t.Fatalf("the events are %v, error %d", events, code)
	}
	clear, bright, green := api.Vec4{X: 21845, Y: 13107, W: one}, api.Vec4{X: one, Y: one, W: one}, api.Vec4{Y: one, W: one}
	for i, want := range []api.Event{
		{Draw: -1, Primitive: -1, Outcome: api.Cleared, Color: api.Vec4{X: one / 3, Y: one / 5, W: one}, Before: api.Vec4{}, After: clear}, {Draw: 0, Outcome: api.Discarded, Color: api.Vec4{X: 2 * one, Y: one, W: one}, Before: clear, After: clear, Depth: one / 2}, {Draw: 1, Outcome: api.Written, Color: api.Vec4{X: 2 * one, Y: one, W: one}, Before: clear, After: bright, Depth: one / 2}, {Draw: 2, Outcome: api.Written, Color: green, Before: bright, After: green, Depth: one / 2}, {Draw: 3, Outcome: api.DepthFailed, Color: green, Before: green, After: green, Depth: one / 2}, {Draw: 4, Outcome: api.StencilFailed, Color: green, Before: green, After: green, Depth: one / 2},
	} {
		for sample := range 2 {
			want.Sample = sample
			if got := events[2*i+sample]; got != want {
				t.Errorf("event %d is %v, want %v", 2*i+sample, got, want)
			}
		}
	}
	for o, want := range map[api.Outcome]int{api.Cleared: 2, api.Discarded: 2, api.StencilFailed: 2, api.DepthFailed: 2, api.Written: 4, 0: 0, 6: 0, -1: 0, largest: 0} {
		if got := history.Count(events, o); got != want {
			t.Errorf("%d events have the outcome %d", got, o)
		}
	}
}

// TestP51_1Passes has passes that load what the ones before them left, and barriers that name the state of their texture, so that each command has to be executed exactly once.
func TestP51_1Passes(t *testing.T) {
	d := newWorld(t)
	list := []api.Command{wall(1, 1, 2), bindTexture(0, 1), bindVertex(0, 0), uniforms(0, one/8, one/9), bind(0), load(0), draw(0, 12), end}
	for i := range 4 {
		list = append(list, wall(0, []api.ResourceState{1, 2, 2, 2}[i], 5), resolving(0, 0), wall(0, 5, 2), bindTexture(0, i%2), bind(0), load(0), draw(i, 12), draw(0, 5), end, bind(1), load(1), draw(i, 9), end)
	}
	counts := map[int]int{}
	for x := range wide {
		for y := range high {
			counts[len(check(t, d, list, 0, x, y))]++
			check(t, d, list, 1, x, y)
		}
	}
	if len(counts) < 5 {
		t.Errorf("the numbers of events are %v", counts)
	}
}

func TestP51_1Errors(t *testing.T) {
	d := newWorld(t)
	good := []api.Command{begin(0), end}
	wrong := []api.Command{bind(7)}
	for _, c := range []struct {
		d        *device.Device
		list     []api.Command
		id, x, y int
		want     api.Errno
	}{
		{nil, good, 0, 0, 0, api.ErrNil}, {&device.Device{}, good, 0, 0, 0, api.ErrNil}, {nil, wrong, 9, -1, 0, api.ErrNil}, {nil, nil, 0, 0, 0, api.ErrNil},
		{d, wrong, 0, 0, 0, api.ErrNotFound}, {d, wrong, 9, 0, 0, api.ErrNotFound}, {d, wrong, 0, -1, 0, api.ErrNotFound}, {d, []api.Command{begin(0)}, 2, 0, 0, api.ErrState}, {d, []api.Command{{}}, 0, 0, 0, api.ErrKind}, {d, []api.Command{bind(1), begin(0), draw(0, 3), end}, 0, 0, 0, api.ErrTarget}, {d, []api.Command{copying(0, 2)}, 0, 0, 0, api.ErrBarrier}, {d, make([]api.Command, 257), 0, 0, 0, api.ErrTooLong},
		{d, good, 2, 0, 0, api.ErrRange}, {d, good, 8, 0, 0, api.ErrRange}, {d, good, -1, 0, 0, api.ErrRange}, {d, good, largest, 0, 0, api.ErrRange}, {d, good, smallest, 0, 0, api.ErrRange}, {d, nil, 2, 0, 0, api.ErrRange}, {d, good, 0, wide, 0, api.ErrRange}, {d, good, 0, 0, high, api.ErrRange}, {d, good, 0, -1, 0, api.ErrRange}, {d, good, 0, 0, -1, api.ErrRange}, {d, good, 0, largest, smallest, api.ErrRange}, {d, nil, 0, 1 << 32, 0, api.ErrRange},
	} {
		if events, code := history.Pixel(c.d, c.list, c.id, c.x, c.y); code != c.want || events != nil {
			t.Errorf("%v at %d (%d, %d) has the events %v, error %d, want %d", c.list, c.id, c.x, c.y, events, code, c.want)
		}
	}
}

// events returns some events of several samples.
func events() []api.Event {
	return []api.Event{{Sample: 1, After: api.Vec4{X: 1}}, {Sample: 0, After: api.Vec4{X: 2}, Outcome: api.Written}, {Sample: 1, After: api.Vec4{X: 3}, Draw: 7}, {Sample: -4, After: api.Vec4{X: 4}}, {Sample: 1, Outcome: api.Cleared}, {Sample: 0, After: api.Vec4{X: 5}}}
}

func TestP51_2Filter(t *testing.T) {
	list := events()
	for _, c := range []struct {
		sample int
		want   []int
		final  api.Vec4
	}{{0, []int{1, 5}, api.Vec4{X: 5}}, {1, []int{0, 2, 4}, api.Vec4{}}, {-4, []int{3}, api.Vec4{X: 4}}, {2, nil, api.Vec4{}}, {largest, nil, api.Vec4{}}, {-1, nil, api.Vec4{}}} {
		var want []api.Event
		for _, i := range c.want {
			want = append(want, list[i])
		}
		got := history.Filter(list, c.sample)
		color, found := history.Final(list, c.sample)
		if !slices.Equal(got, want) || color != c.final || found != (len(want) > 0) {
			t.Errorf("the events of sample %d are %v, with the color %v, %t", c.sample, got, color, found)
		}
		for i := range got {
			got[i].Draw = 99
		}
		if !slices.Equal(list, events()) {
			t.Error("the events were changed")
		}
	}
	for _, empty := range [][]api.Event{nil, {}} {
		color, found := history.Final(empty, 0)
		if got := history.Filter(empty, 0); len(got) > 0 || found || color != (api.Vec4{}) || history.Count(empty, 0) != 0 {
			t.Errorf("no events have the events %v", got)
		}
	}
	if got := history.Count(list, 0); got != 4 {
		t.Errorf("%d events have no outcome", got)
	}
}

func TestP51_2Equal(t *testing.T) {
	list := events()
	if !history.Equal(list, events()) || !history.Equal(nil, []api.Event{}) || history.Equal(list, list[:5]) || history.Equal(list[:5], list) || history.Equal(list, nil) {
		t.Error("Equal of lists is wrong")
	}
	for i := range list {
		for _, change := range []func(e *api.Event){func(e *api.Event) { e.Draw++ }, func(e *api.Event) { e.Primitive-- }, func(e *api.Event) { e.Sample += 1 << 32 }, func(e *api.Event) { e.Outcome++ }, func(e *api.Event) { e.Color.Z++ }, func(e *api.Event) { e.Before.W++ }, func(e *api.Event) { e.After.Y++ }, func(e *api.Event) { e.Depth++ }} {
			other := events()
			change(&other[i])
			if history.Equal(list, other) || history.Equal(other, list) {
				t.Errorf("%v and %v are equal", list, other)
			}
		}
	}
	swapped := events()
	swapped[0], swapped[1] = swapped[1], swapped[0]
	if history.Equal(list, swapped) {
		t.Error("the order of events does not count")
	}
}

func TestP51_3Text(t *testing.T) {
	for _, c := range []struct {
		e    api.Event
		want string
	}{
		{api.Event{Draw: -1, Primitive: -1, Sample: 3, Outcome: api.Cleared, Color: api.Vec4{X: 9}, After: api.Vec4{X: 1, Y: -2, Z: 3, W: 65536}}, "draw -1 primitive -1 sample 3 cleared color 1 -2 3 65536"}, {api.Event{Outcome: api.Written, Before: api.Vec4{X: 9}, Depth: 8}, "draw 0 primitive 0 sample 0 written color 0 0 0 0"}, {api.Event{Draw: 255, Primitive: 1023, Outcome: api.Discarded}, "draw 255 primitive 1023 sample 0 discarded color 0 0 0 0"}, {api.Event{Outcome: api.StencilFailed}, "draw 0 primitive 0 sample 0 stencil color 0 0 0 0"}, {api.Event{Outcome: api.DepthFailed}, "draw 0 primitive 0 sample 0 depth color 0 0 0 0"}, {api.Event{}, "draw 0 primitive 0 sample 0 ? color 0 0 0 0"},
		{api.Event{Draw: largest, Primitive: smallest, Sample: -5, Outcome: largest, After: api.Vec4{X: largest, Y: smallest}}, "draw 9223372036854775807 primitive -9223372036854775808 sample -5 ? color 9223372036854775807 -9223372036854775808 0 0"},
	} {
		if got := history.Text(c.e); got != c.want {
			t.Errorf("the text of %v is %q, want %q", c.e, got, c.want)
		}
	}
}

// TestP51_4Arbitrary compares the events of arbitrary lists with their second reading, and with the final target.
func TestP51_4Arbitrary(t *testing.T) {
	s := state(1)
	d := newWorld(t)
	seen, count := map[api.Outcome]int{}, 0
	for i := range 90 {
		list := s.commands(1 + s.next(5))
		if code := codeOf(d, list); code != api.OK {
			t.Fatalf("the test is wrong: %v has error %d", list, code)
		}
		for range 3 {
			events := check(t, d, list, s.next(2), s.next(wide), s.next(high))
			count += len(events)
			for _, e := range events {
				seen[e.Outcome]++
			}
		}
		if i%10 == 9 {
			d.Submit(list)
		}
	}
	for o := api.Cleared; o <= api.Written; o++ {
		if seen[o] < 20 {
			t.Errorf("only %d of %d events have the outcome %d", seen[o], count, o)
		}
	}
}

func codeOf(d *device.Device, list []api.Command) api.Errno {
	_, code := d.Check(list)
	return code
}

// TestP51_4Long has as many commands as there may be, of which most have to be bound again.
func TestP51_4Long(t *testing.T) {
	d := newWorld(t)
	list := []api.Command{wall(1, 1, 2), bindTexture(0, 1), bindVertex(0, 0), bind(0)}
	for i := len(list); i < 251; i++ {
		list = append(list, uniforms(i%64, 300*i))
	}
	list = append(list, begin(0), end, begin(0), draw(0, 9), end)
	if events := check(t, d, list, 0, 3, 2); len(list) != 256 || len(events) < 8 {
		t.Errorf("the events of %d commands are %v", len(list), events)
	}
	// The largest target, all of which is copied for nothing else than one pixel.
	u, _ := target.New(64, 64, 8, api.RGBA16F, api.D24S8)
	d.SetTarget(5, u)
	p := pipeline.Default()
	p.Samples, p.Format, p.DepthFormat, p.Topology = 8, api.RGBA16F, api.D24S8, api.TriangleFan
	d.SetPipeline(5, p)
	d.SetBuffer(5, numbers(-one, -one, 0, one, one, -one, 0, one, one, one, 0, one, -one, one, 0, one))
	large := []api.Command{bind(5), bindVertex(0, 5), begin(5), draw(0, 4), draw(0, 4), end}
	events, code := history.Pixel(d, large, 5, 63, 0)
	if code != api.OK || len(events) != 24 || history.Count(events, api.Written) != 16 {
		t.Errorf("the events are %v, error %d", events, code)
	}
}
