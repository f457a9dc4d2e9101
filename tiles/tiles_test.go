package tiles_test

import (
	"fmt"
	"math"
	"slices"
	"testing"

	"frustum/api"
	"frustum/binning"
	"frustum/compiler"
	"frustum/depth"
	"frustum/edge"
	"frustum/fragments"
	"frustum/output"
	"frustum/permute"
	"frustum/pipeline"
	"frustum/target"
	"frustum/tiles"
)

const (
	one      = api.One
	largest  = math.MaxInt
	smallest = math.MinInt
)

// compile returns the program of a shader.
func compile(t *testing.T, text string) api.Program {
	t.Helper()
	p, line, code := compiler.Compile("shader "+text, 256)
	if code != api.OK {
		t.Fatalf("the test is wrong: %s has error %d in line %d", text, code, line)
	}
	return p
}

// state makes arbitrary numbers.
type state uint64

func (s *state) next(beyond int) int {
	*s = *s*6364136223846793005 + 1442695040888963407
	return int(*s>>33) % beyond
}

func (s *state) wide() uint64 {
	return uint64(s.next(1<<31))<<33 ^ uint64(s.next(1<<31))
}

// scene is what a draw needs.
type scene struct {
	p         api.Pipeline
	b         api.Bindings
	t         api.Target
	triangles []api.Triangle
}

// shaders are a vertex and a fragment program for two varyings.
type shaders struct{ vertex, fragment api.Program }

func newShaders(t *testing.T) shaders {
	return shaders{
		compile(t, "vertex; in a: vec4; out o: vec4; out v: vec2; main { o = a; }"),
		compile(t, "fragment; uniform k: vec4; in v: vec2; out o: vec4; main { o = k; o.x = v.x; o.y = v.y * v.x; if (ddx(v).x > 0.1) { if (v.y > 0.5) { discard; } } }"),
	}
}

// scene returns a scene of any kind, in which samples are tested and blended.
func (s *state) scene(h shaders, width, height, count int) scene {
	c := scene{p: pipeline.Default()}
	p := &c.p
	p.Vertex, p.Fragment = h.vertex, h.fragment
	p.Samples, p.Format, p.DepthFormat = 1<<s.next(4), api.TexelFormat(1+s.next(6)), api.DepthFormat(1+s.next(3))
	p.Viewport = api.Viewport{Width: width, Height: height, MaxDepth: one}
	p.Depth = api.DepthState{Test: s.next(3) > 0, Write: s.next(3) > 0, Compare: []api.CompareFunc{api.LessThan, api.GreaterOrEqual, api.Always}[s.next(3)]}
	face := api.StencilFace{Compare: []api.CompareFunc{api.GreaterOrEqual, api.Always, api.Different}[s.next(3)], Fail: api.DecrementSat, DepthFail: api.IncrementWrap, Pass: api.IncrementSat}
	p.Stencil = api.StencilState{Test: s.next(2) == 0, Front: face, Back: face, Reference: 2, ReadMask: 255, WriteMask: 255}
	p.Blend.Enable, p.Blend.SourceColor, p.Blend.TargetColor, p.Blend.Mask = s.next(2) == 0, api.SourceAlpha, api.OneMinusSourceAlpha, 15-s.next(4)
	c.b = api.Bindings{Uniforms: []int{s.next(one), s.next(one), s.next(one), s.next(one)}}
	c.t, _ = target.New(width, height, p.Samples, p.Format, p.DepthFormat)
	for _, m := range c.t.Color {
		for i := range m.Data {
			m.Data[i] = byte(s.next(120))
		}
	}
	for i := range c.t.Depths {
		c.t.Depths[i] = s.next(depth.Max(p.DepthFormat) + 1)
		if p.DepthFormat == api.D24S8 {
			c.t.Stencils[i] = s.next(4)
		}
	}
	for len(c.triangles) < count {
		u := api.Triangle{Primitive: len(c.triangles), Front: s.next(2) == 0}
		for i := range u.V {
			// Some triangles reach beyond the target.
			u.V[i] = api.ScreenVertex{X: s.next(width*256 + 600), Y: s.next(height*256 + 600), Z: s.next(one + 1), InvW: 1 + s.next(2*one), Varyings: []int{s.next(one), s.next(one)}}
		}
		if edge.Valid(u) || s.next(6) == 0 {
			c.triangles = append(c.triangles, u)
		}
	}
	return c
}

// expected is a second reading of P47.1 for the pixels of some tiles, fragment by fragment of the whole image.
func (c scene) expected(has func(tile int) bool) (api.Target, int) {
	u, written := target.Clone(c.t), 0
	for _, triangle := range c.triangles {
		for _, f := range fragments.Generate(triangle, 0, 0, c.t.Width, c.t.Height, c.t.Samples) {
			if !has(f.Y/8*((c.t.Width+7)/8) + f.X/8) {
				continue
			}
			colors, discarded, _ := fragments.Shade(c.p.Fragment, c.b, []api.Fragment{f})
			for i := range c.t.Samples {
				var outcome api.Outcome
				if u, outcome = output.Sample(c.p, u, f, i, colors[0], discarded[0]); outcome == api.Written {
					written++
				}
			}
		}
	}
	return u, written
}

// watch returns a function that checks that a scene is still what it is now, after a result was spoiled.
func (c scene) watch(t *testing.T) func(result api.Target) {
	before := fmt.Sprint(c)
	return func(result api.Target) {
		t.Helper()
		for i := range result.Color {
			for k := range result.Color[i].Data {
				result.Color[i].Data[k] ^= 0x55
			}
			result.Color[i].Width++
		}
		for i := range result.Depths {
			result.Depths[i], result.Stencils[i] = -1, -1
		}
		if fmt.Sprint(c) != before {
			t.Fatal("an argument was changed")
		}
	}
}

// check checks a target and a number of samples.
func check(t *testing.T, name string, got api.Target, written int, code api.Errno, want api.Target, count int) {
	t.Helper()
	if code != api.OK || written != count || !target.Equal(got, want) {
		t.Fatalf("%s writes %d samples, error %d, want %d; equal targets: %t", name, written, code, count, target.Equal(got, want))
	}
}

// checkError checks that there is an error, and nothing else.
func checkError(t *testing.T, name string, got api.Target, written int, code, want api.Errno) {
	t.Helper()
	if code != want || written != 0 || fmt.Sprint(got) != fmt.Sprint(api.Target{}) {
		t.Errorf("%s has %d samples, error %d, want %d", name, written, code, want)
	}
}

func TestP47_1Tile(t *testing.T) {
	s, h := state(1), newShaders(t)
	total := 0
	for i := range 60 {
		c := s.scene(h, 1+s.next(20), 1+s.next(20), s.next(6))
		if i == 0 {
			c = s.scene(h, 20, 9, 5)
		}
		for tile := range binning.Tiles(c.t.Width, c.t.Height) {
			want, count := c.expected(func(n int) bool { return n == tile })
			unchanged := c.watch(t)
			got, written, code := tiles.Tile(c.p, c.b, c.t, c.triangles, tile)
			check(t, "Tile", got, written, code, want, count)
			unchanged(got)
			total += written
		}
	}
	if total < 3000 {
		t.Errorf("only %d samples are written", total)
	}
	c := s.scene(h, 9, 9, 0)
	for _, triangles := range [][]api.Triangle{nil, {}} {
		got, written, code := tiles.Tile(c.p, c.b, c.t, triangles, 3)
		check(t, "Tile without triangles", got, written, code, c.t, 0)
	}
}

// mismatches returns changes after which a pipeline does not match a target of 9x9 pixels.
func mismatches() map[string]func(c *scene) {
	return map[string]func(c *scene){
		"no pipeline":    func(c *scene) { c.p = api.Pipeline{} },
		"no target":      func(c *scene) { c.t = api.Target{} },
		"a wrong target": func(c *scene) { c.t.Depths = nil },
		"samples":        func(c *scene) { c.p.Samples = 8 / c.p.Samples * 2 % 9 },
		"a format":       func(c *scene) { c.p.Format = c.p.Format%6 + 1 },
		"a depth format": func(c *scene) { c.p.DepthFormat = c.p.DepthFormat%3 + 1 },
		"a viewport":     func(c *scene) { c.p.Viewport.Width = 10 },
		"a wrong state":  func(c *scene) { c.p.Depth.Compare = 0 },
		"a program":      func(c *scene) { c.p.Fragment.Inputs = 3 },
	}
}

func TestP47_1Errors(t *testing.T) {
	s, h := state(2), newShaders(t)
	for name, change := range mismatches() {
		c := s.scene(h, 9, 9, 3)
		if name == "samples" {
			for c.p.Samples != 2 {
				c = s.scene(h, 9, 9, 3)
			}
		}
		change(&c)
		for _, tile := range []int{0, 3, 4, -1, largest} {
			got, written, code := tiles.Tile(c.p, c.b, c.t, c.triangles, tile)
			checkError(t, name, got, written, code, api.ErrPipeline)
		}
		for _, order := range [][]int{nil, {0, 1, 2, 3}, {0, 1, 2}, {0, 0, 0, 0}} {
			got, written, code := tiles.Draw(c.p, c.b, c.t, c.triangles, order)
			checkError(t, name, got, written, code, api.ErrPipeline)
		}
		for _, tasks := range [][]tiles.Task{nil, tiles.Assign(4, 2, 1), {{9, 9}}} {
			got, written, code := tiles.Run(c.p, c.b, c.t, c.triangles, tasks)
			checkError(t, name, got, written, code, api.ErrPipeline)
		}
	}
	c := s.scene(h, 9, 9, 3)
	for _, tile := range []int{-1, 4, 5, 64, 1 << 32, largest, smallest} {
		got, written, code := tiles.Tile(c.p, c.b, c.t, c.triangles, tile)
		checkError(t, "a tile that does not exist", got, written, code, api.ErrRange)
	}
}

// everywhere is the set of all tiles.
func everywhere(int) bool { return true }

func TestP47_2Draw(t *testing.T) {
	s, h := state(3), newShaders(t)
	c := s.scene(h, 16, 16, 4)
	want, count := c.expected(everywhere)
	for _, order := range [][]int{nil, {}, {0, 1, 2, 3}, {3, 2, 1, 0}, {2, 0, 3, 1}} {
		before := slices.Clone(order)
		unchanged := c.watch(t)
		got, written, code := tiles.Draw(c.p, c.b, c.t, c.triangles, order)
		check(t, fmt.Sprint("Draw in the order ", order), got, written, code, want, count)
		unchanged(got)
		if !slices.Equal(order, before) {
			t.Error("the order was changed")
		}
	}
	for _, order := range [][]int{{0}, {0, 1, 2}, {0, 1, 2, 3, 4}, {0, 1, 2, 2}, {0, 1, 2, 4}, {-1, 0, 1, 2}, {1, 2, 3, 4}, {largest, 1, 2, 3}, {0, 1, 2, smallest}, {0, 1, 2, 3, 0}} {
		got, written, code := tiles.Draw(c.p, c.b, c.t, c.triangles, order)
		checkError(t, fmt.Sprint("the order ", order), got, written, code, api.ErrSchedule)
	}
	small := s.scene(h, 8, 8, 2)
	want, count = small.expected(everywhere)
	for _, order := range [][]int{nil, {0}} {
		got, written, code := tiles.Draw(small.p, small.b, small.t, small.triangles, order)
		check(t, "Draw in a single tile", got, written, code, want, count)
	}
}

func TestP47_3Validate(t *testing.T) {
	for _, c := range []struct {
		tasks []tiles.Task
		tiles int
		want  api.Errno
	}{
		{nil, 0, api.OK}, {[]tiles.Task{}, -1, api.OK}, {nil, smallest, api.OK}, {nil, 1, api.ErrCount}, {nil, largest, api.ErrCount}, {[]tiles.Task{{0, 0}}, 1, api.OK}, {[]tiles.Task{{7, 0}}, 1, api.OK}, {[]tiles.Task{{0, 1}, {0, 0}}, 2, api.OK}, {[]tiles.Task{{3, 2}, {7, 0}, {3, 1}}, 3, api.OK},
		{[]tiles.Task{{8, 0}}, 1, api.ErrRange}, {[]tiles.Task{{-1, 0}}, 1, api.ErrRange}, {[]tiles.Task{{0, 1}}, 1, api.ErrRange}, {[]tiles.Task{{0, -1}}, 1, api.ErrRange}, {[]tiles.Task{{0, 0}}, 0, api.ErrRange}, {[]tiles.Task{{0, 0}}, -1, api.ErrRange}, {[]tiles.Task{{largest, 0}}, 1, api.ErrRange}, {[]tiles.Task{{0, smallest}}, 1, api.ErrRange}, {[]tiles.Task{{0, 0}}, smallest, api.ErrRange},
		{[]tiles.Task{{0, 0}, {1, 0}}, 2, api.ErrDuplicate}, {[]tiles.Task{{0, 0}, {0, 0}}, 1, api.ErrDuplicate}, {[]tiles.Task{{0, largest - 1}}, largest, api.ErrCount}, {[]tiles.Task{{0, 0}, {0, 2}}, 3, api.ErrCount},
		// The first error in the order of the document counts, not that of the first task.
		{[]tiles.Task{{0, 0}, {0, 0}, {8, 1}}, 3, api.ErrRange}, {[]tiles.Task{{0, 0}, {0, 0}}, 3, api.ErrDuplicate}, {[]tiles.Task{{0, 0}, {0, 5}}, 3, api.ErrRange}, {[]tiles.Task{{8, 0}, {0, 0}}, 3, api.ErrRange},
	} {
		before := slices.Clone(c.tasks)
		if got := tiles.Validate(c.tasks, c.tiles); got != c.want || !slices.Equal(before, c.tasks) {
			t.Errorf("the tasks %v for %d tiles have error %d, want %d", c.tasks, c.tiles, got, c.want)
		}
	}
}

// TestP47_3ValidateAll has all short lists of tasks of few tiles and workers.
func TestP47_3ValidateAll(t *testing.T) {
	choices := []tiles.Task{{0, -1}, {0, 0}, {7, 1}, {1, 2}, {0, 3}, {-1, 0}, {8, 1}}
	var each func(tasks []tiles.Task)
	each = func(tasks []tiles.Task) {
		for count := -1; count <= 4; count++ {
			times := map[int]int{}
			want := api.OK
			for _, task := range tasks {
				times[task.Tile]++
			}
			for tile := range max(count, 0) {
				if times[tile] == 0 {
					want = api.ErrCount
				}
			}
			for _, n := range times {
				if n > 1 {
					want = api.ErrDuplicate
				}
			}
			for _, task := range tasks {
				if task.Tile < 0 || task.Tile >= count || task.Worker < 0 || task.Worker > 7 {
					want = api.ErrRange
				}
			}
			if got := tiles.Validate(tasks, count); got != want {
				t.Fatalf("the tasks %v for %d tiles have error %d, want %d", tasks, count, got, want)
			}
		}
		if len(tasks) < 4 {
			for _, task := range choices {
				each(append(slices.Clone(tasks), task))
			}
		}
	}
	each(nil)
}

func TestP47_3Assign(t *testing.T) {
	s := state(4)
	for _, count := range []int{1, 2, 3, 6, 64, 4096} {
		for workers := 1; workers <= 8; workers++ {
			state := s.wide()
			order, _ := permute.Perm(count, state)
			got := tiles.Assign(count, workers, state)
			if len(got) != count || tiles.Validate(got, count) != api.OK {
				t.Fatalf("the tasks of %d tiles and %d workers are %v", count, workers, got)
			}
			for i, task := range got {
				if task.Worker != i%workers || task.Tile != order[i] {
					t.Fatalf("task %d of %d tiles and %d workers is %v", i, count, workers, task)
				}
			}
			got[0].Worker = 9
			if tiles.Assign(count, workers, state)[0].Worker != 0 {
				t.Fatal("two results share memory")
			}
		}
	}
	for _, c := range [][2]int{{0, 1}, {-1, 1}, {4097, 1}, {largest, 1}, {smallest, 1}, {1, 0}, {1, -1}, {1, 9}, {1, largest}, {1, smallest}, {0, 0}, {1, 1<<32 + 1}} {
		if got := tiles.Assign(c[0], c[1], 5); len(got) > 0 {
			t.Errorf("the tasks of %d tiles and %d workers are %v", c[0], c[1], got)
		}
	}
	if got := fmt.Sprint(tiles.Assign(1, 3, 9)); got != "[{0 0}]" {
		t.Errorf("the only task is %s", got)
	}
}

func TestP47_4Run(t *testing.T) {
	s, h := state(5), newShaders(t)
	c := s.scene(h, 16, 16, 4)
	want, count := c.expected(everywhere)
	for _, tasks := range [][]tiles.Task{
		{{0, 0}, {0, 1}, {0, 2}, {0, 3}}, {{0, 3}, {1, 2}, {2, 1}, {3, 0}}, {{7, 2}, {7, 0}, {0, 3}, {7, 1}}, tiles.Assign(4, 3, 77),
	} {
		before := slices.Clone(tasks)
		unchanged := c.watch(t)
		got, written, code := tiles.Run(c.p, c.b, c.t, c.triangles, tasks)
		check(t, fmt.Sprint("Run of ", tasks), got, written, code, want, count)
		unchanged(got)
		if !slices.Equal(tasks, before) {
			t.Error("the tasks were changed")
		}
	}
	for _, tasks := range [][]tiles.Task{nil, {}, {{0, 0}}, {{0, 0}, {0, 1}, {0, 2}}, {{0, 0}, {0, 1}, {0, 2}, {0, 4}}, {{0, 0}, {0, 1}, {0, 2}, {0, 2}}, {{0, 0}, {0, 1}, {0, 2}, {8, 3}}, {{0, 0}, {0, 1}, {0, 2}, {0, 3}, {0, 3}}, {{-1, 0}, {0, 1}, {0, 2}, {0, 3}}} {
		got, written, code := tiles.Run(c.p, c.b, c.t, c.triangles, tasks)
		checkError(t, fmt.Sprint("the tasks ", tasks), got, written, code, api.ErrSchedule)
	}
}

// TestP47_5Arbitrary compares Draw and Run with the second reading, for arbitrary orders and schedules.
func TestP47_5Arbitrary(t *testing.T) {
	s, h := state(6), newShaders(t)
	total := 0
	for range 60 {
		c := s.scene(h, 1+s.next(25), 1+s.next(25), 1+s.next(6))
		want, count := c.expected(everywhere)
		number := binning.Tiles(c.t.Width, c.t.Height)
		for range 3 {
			order, _ := permute.Perm(number, s.wide())
			got, written, code := tiles.Draw(c.p, c.b, c.t, c.triangles, order)
			check(t, "Draw", got, written, code, want, count)
			got, written, code = tiles.Run(c.p, c.b, c.t, c.triangles, tiles.Assign(number, 1+s.next(8), s.wide()))
			check(t, "Run", got, written, code, want, count)
			for i := range order {
				order[i] = s.next(8)
			}
			got, written, code = tiles.Run(c.p, c.b, c.t, c.triangles, withWorkers(order, number, s.wide()))
			check(t, "Run", got, written, code, want, count)
		}
		// A draw that is split at a triangle into two draws gives the same target.
		at := s.next(len(c.triangles) + 1)
		first, a, _ := tiles.Draw(c.p, c.b, c.t, c.triangles[:at], nil)
		second, b, code := tiles.Draw(c.p, c.b, first, c.triangles[at:], nil)
		check(t, "two draws", second, a+b, code, want, count)
		total += count
	}
	if total < 5000 {
		t.Errorf("only %d samples are written", total)
	}
}

// withWorkers returns the tasks of these workers in an order of the tiles.
func withWorkers(workers []int, count int, state uint64) []tiles.Task {
	order, _ := permute.Perm(count, state)
	var tasks []tiles.Task
	for i, tile := range order {
		tasks = append(tasks, tiles.Task{Worker: workers[i], Tile: tile})
	}
	return tasks
}

// TestP47_5Large draws into the largest target, with as many fragments as there may be.
func TestP47_5Large(t *testing.T) {
	p := pipeline.Default()
	p.Samples, p.Format, p.DepthFormat = 8, api.RGBA16F, api.D24S8
	u, _ := target.New(64, 64, 8, api.RGBA16F, api.D24S8)
	corner := func(x, y int) api.ScreenVertex { return api.ScreenVertex{X: x, Y: y, InvW: one} }
	end := 64 * 256
	triangles := []api.Triangle{{V: [3]api.ScreenVertex{corner(0, 0), corner(end, 0), corner(0, end)}}, {V: [3]api.ScreenVertex{corner(end, end), corner(0, end), corner(end, 0)}}}
	got, written, code := tiles.Draw(p, api.Bindings{}, u, triangles, nil)
	want := target.Clear(u, api.Vec4{X: one, Y: one, Z: one, W: one}, 0, 0)
	check(t, "Draw", got, written, code, want, 64*64*8)
	got, written, code = tiles.Run(p, api.Bindings{}, u, triangles, tiles.Assign(64, 8, 3))
	check(t, "Run", got, written, code, want, 64*64*8)
}
