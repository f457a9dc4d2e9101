package device_test

import (
	"fmt"
	"slices"
	"testing"

	"frustum/api"
	"frustum/device"
	"frustum/image"
	"frustum/mipmap"
	"frustum/pipeline"
	"frustum/target"
)

var point = api.Sampler{AddressU: api.Repeat, AddressV: api.Mirror, Magnify: api.Nearest, Minify: api.Nearest, Mipmap: api.Nearest}

var smooth = api.Sampler{AddressU: api.ClampBorder, AddressV: api.Repeat, Magnify: api.Linear, Minify: api.Linear, Mipmap: api.Linear, Border: api.Vec4{Y: one}, LODBias: one, MaxLOD: 2 * one}

func bindTexture(slot, id int) api.Command {
	return api.Command{Kind: api.BindTexture, Slot: slot, ID: id, Sampler: point}
}

func bind(id int) api.Command {
	return api.Command{Kind: api.BindPipeline, ID: id}
}

func bindVertex(slot, id int) api.Command {
	return api.Command{Kind: api.BindVertex, Slot: slot, ID: id}
}

func wall(id int, from, to api.ResourceState) api.Command {
	return api.Command{Kind: api.Barrier, ID: id, From: from, To: to}
}

func begin(id int) api.Command {
	return api.Command{Kind: api.BeginPass, ID: id, Clear: api.Vec4{X: one / 2, W: one}, ClearDepth: one, ClearStencil: 3}
}

func load(id int) api.Command {
	return api.Command{Kind: api.BeginPass, ID: id, LoadContents: true}
}

func draw(first, count int) api.Command {
	return api.Command{Kind: api.Draw, First: first, Count: count}
}

func uniforms(first int, values ...int) api.Command {
	return api.Command{Kind: api.SetUniforms, First: first, Values: values}
}

func query(id int) api.Command {
	return api.Command{Kind: api.BeginQuery, ID: id}
}

func endQuery(id int) api.Command {
	return api.Command{Kind: api.EndQuery, ID: id}
}

func copying(texture, buffer int) api.Command {
	return api.Command{Kind: api.CopyToImage, ID: texture, Slot: buffer}
}

func resolving(target, texture int) api.Command {
	return api.Command{Kind: api.Resolve, ID: target, Slot: texture}
}

var end = api.Command{Kind: api.EndPass}

// checkList compares Check, Submit and SubmitShuffled with their second readings, on copies of a device, and returns the one after Submit.
func checkList(t *testing.T, d *device.Device, list []api.Command) (*device.Device, int, api.Errno) {
	t.Helper()
	before, content := fmt.Sprint(list), d.Clone()
	w := worldOf(d)
	at, code := w.check(list)
	if i, got := d.Check(list); i != at || got != code {
		t.Fatalf("Check of %+v has error %d at %d, want %d at %d", list, got, i, code, at)
	}
	worldOf(content).compare(t, d, "Check")
	if code == api.OK {
		w.run(list)
	}
	after := d.Clone()
	if i, got := after.Submit(list); i != at || got != code {
		t.Fatalf("Submit of %+v has error %d at %d, want %d at %d", list, got, i, code, at)
	}
	w.compare(t, after, "Submit")
	for _, workers := range []int{1, 3, 8} {
		shuffled := d.Clone()
		if i, got := shuffled.SubmitShuffled(list, uint64(7*workers+at), workers); i != at || got != code {
			t.Fatalf("SubmitShuffled of %+v has error %d at %d, want %d at %d", list, got, i, code, at)
		}
		w.compare(t, shuffled, "SubmitShuffled")
		if shuffled.Hash() != after.Hash() {
			t.Fatal("the hashes differ")
		}
	}
	worldOf(content).compare(t, d, "a change of a copy")
	if fmt.Sprint(list) != before {
		t.Fatal("the commands were changed")
	}
	return after, at, code
}

func TestP50_2Check(t *testing.T) {
	d := newWorld(t)
	read := wall(0, 1, 2)
	for _, c := range []struct {
		list []api.Command
		at   int
		want api.Errno
	}{
		{nil, 0, api.OK}, {[]api.Command{}, 0, api.OK}, {[]api.Command{begin(0), end}, 2, api.OK}, {[]api.Command{bind(0), bindVertex(0, 0), begin(0), draw(0, 3), end}, 5, api.OK},
		// The errors of barrier.Check come first, wherever they are.
		{[]api.Command{bind(7), {}}, 1, api.ErrKind}, {[]api.Command{bind(7), end}, 1, api.ErrState}, {[]api.Command{bind(7), copying(0, 0)}, 1, api.ErrBarrier}, {[]api.Command{bind(7), begin(0)}, 2, api.ErrState}, {[]api.Command{begin(7), draw(0, 3), end}, 1, api.ErrCommand}, {make([]api.Command, 257), 0, api.ErrTooLong}, {[]api.Command{begin(7), query(1), end}, 2, api.ErrQuery}, {[]api.Command{bind(7), {Kind: api.EndPass, ID: 3}}, 1, api.ErrArgument}, {[]api.Command{bind(7), bind(8)}, 1, api.ErrRange},
		{[]api.Command{bind(4)}, 0, api.ErrNotFound}, {[]api.Command{bind(0), bind(7)}, 1, api.ErrNotFound}, {[]api.Command{bindTexture(0, 4)}, 0, api.ErrNotFound}, {[]api.Command{begin(3), end}, 0, api.ErrNotFound}, {[]api.Command{load(3), end}, 0, api.ErrNotFound}, {[]api.Command{wall(4, 1, 2)}, 0, api.ErrNotFound}, {[]api.Command{wall(7, 1, 5), copying(7, 3)}, 0, api.ErrNotFound}, {[]api.Command{bindVertex(0, 7), {Kind: api.BindIndex, ID: 7, Index: api.Index8}, {Kind: api.BindBuffer, ID: 6}}, 3, api.OK},
		{[]api.Command{wall(1, 1, 5), resolving(3, 1)}, 1, api.ErrNotFound}, {[]api.Command{wall(5, 1, 5), resolving(1, 5)}, 0, api.ErrNotFound}, {[]api.Command{wall(1, 1, 5), resolving(1, 1)}, 2, api.OK}, {[]api.Command{wall(1, 1, 5), resolving(2, 1)}, 2, api.OK}, {[]api.Command{wall(0, 1, 5), resolving(1, 0)}, 1, api.ErrFormat}, {[]api.Command{wall(1, 1, 5), resolving(0, 1)}, 1, api.ErrFormat}, {[]api.Command{wall(2, 1, 5), resolving(0, 2)}, 2, api.OK},
		{[]api.Command{wall(0, 1, 5), copying(0, 3)}, 2, api.OK}, {[]api.Command{wall(0, 1, 5), copying(0, 1)}, 1, api.ErrSize}, {[]api.Command{wall(0, 1, 5), copying(0, 7)}, 1, api.ErrSize}, {[]api.Command{wall(0, 1, 5), copying(0, 2)}, 2, api.OK}, {[]api.Command{wall(1, 1, 5), copying(1, 2)}, 1, api.ErrSize},
		{[]api.Command{bind(0), begin(1), draw(0, 3), end}, 2, api.ErrTarget}, {[]api.Command{bind(1), begin(0), draw(0, 3), end}, 2, api.ErrTarget}, {[]api.Command{bind(2), begin(1), draw(0, 3), end}, 2, api.ErrTarget}, {[]api.Command{bind(1), begin(2), draw(0, 3), end}, 2, api.ErrTarget}, {[]api.Command{bind(0), begin(0), bind(1), draw(0, 3), end}, 3, api.ErrTarget}, {[]api.Command{bind(0), begin(0), draw(0, 3), end, begin(1), end}, 6, api.OK}, {[]api.Command{bind(0), begin(0), draw(0, 3), end, begin(1), draw(0, 3), end}, 5, api.ErrTarget}, {[]api.Command{bind(1), begin(0), end, begin(1), draw(0, 3), bind(2), end, begin(2), draw(0, 3), end}, 10, api.OK},
		// The first command with an error counts.
		{[]api.Command{bind(0), begin(1), draw(0, 3), end, bind(7)}, 2, api.ErrTarget}, {[]api.Command{read, bindTexture(0, 0), bindTexture(1, 4), bind(0), begin(1), draw(0, 3), end}, 5, api.ErrBarrier}, {[]api.Command{read, bindTexture(0, 0), bind(5), begin(1), draw(0, 3), end}, 2, api.ErrNotFound},
	} {
		if _, at, code := checkList(t, d, c.list); at != c.at || code != c.want {
			t.Errorf("%v has error %d at %d, want %d at %d", c.list, code, at, c.want, c.at)
		}
	}
}

// TestP50_2Format has a target and textures that differ in the format, the width or the height alone.
func TestP50_2Format(t *testing.T) {
	d, s := device.New(), state(8)
	d.SetTarget(0, s.target(api.RGBA8, api.NoDepth, 3, 2, 2))
	for id, u := range []api.Texture{s.texture(api.RGBA8, 3, 2), s.texture(api.RGB10A2, 3, 2), s.texture(api.RGBA8, 4, 2), s.texture(api.RGBA8, 3, 3), s.texture(api.RGBA8, 2, 3)} {
		d.SetTexture(id, u)
		want := api.ErrFormat
		if id == 0 {
			want = api.OK
		}
		if _, _, code := checkList(t, d, []api.Command{wall(id, 1, 5), resolving(0, id)}); code != want {
			t.Errorf("texture %d has error %d", id, code)
		}
	}
	for size, want := range map[int]api.Errno{23: api.ErrSize, 24: api.OK, 25: api.OK, 0: api.ErrSize} {
		d.SetBuffer(1, make([]byte, size))
		if _, _, code := checkList(t, d, []api.Command{wall(0, 1, 5), copying(0, 1)}); code != want {
			t.Errorf("%d bytes have error %d, want %d", size, code, want)
		}
	}
}

func TestP50_3Clear(t *testing.T) {
	d := device.New()
	u, _ := target.New(5, 3, 2, api.RGBA8, api.D24S8)
	d.SetTarget(0, u)
	red := api.Command{Kind: api.BeginPass, Clear: api.Vec4{X: one, W: one}, ClearDepth: one / 2, ClearStencil: 77}
	after, n, code := checkList(t, d, []api.Command{red, end})
	if n != 2 || code != api.OK {
		t.Fatalf("the commands have error %d", code)
	}
	got, _ := after.Target(0)
	for y := range 3 {
		for x := range 5 {
			for i := range 2 {
				if c, z, s := target.Color(got, x, y, i), target.Depth(got, x, y, i), target.Stencil(got, x, y, i); c != (api.Vec4{X: one, W: one}) || z != 8388608 || s != 77 {
					t.Errorf("the sample has the color %v, the depth %d and the stencil value %d", c, z, s)
				}
			}
		}
	}
	again, _, _ := checkList(t, after, []api.Command{load(0), end})
	if again.Hash() != after.Hash() {
		t.Error("a pass that loads its target changed it")
	}
}

// textured returns commands that draw with textures, uniforms, a buffer and indices.
func textured(pass api.Command, middle ...api.Command) []api.Command {
	list := []api.Command{wall(0, 1, 2), wall(2, 1, 2), bindTexture(0, 0), {Kind: api.BindTexture, Slot: 1, ID: 2, Sampler: smooth}, bindVertex(0, 0), {Kind: api.BindBuffer, ID: 4}, {Kind: api.BindIndex, ID: 1, Index: api.Index8}, uniforms(0, one/3, one/4, one/8, 0, one), bind(pass.ID), pass}
	return append(append(list, middle...), end)
}

// TestP50_3Bindings leaves out what is bound, piece by piece, and expects other pictures.
func TestP50_3Bindings(t *testing.T) {
	d := newWorld(t)
	full := textured(begin(1), query(4), draw(0, 12), endQuery(4))
	after, _, code := checkList(t, d, full)
	if n, found := after.Query(4); code != api.OK || !found || n < 50 {
		t.Fatalf("%d samples are written, error %d", n, code)
	}
	seen := map[uint64]int{after.Hash(): -1}
	for _, i := range []int{2, 3, 4, 5, 6, 7} {
		list := slices.Delete(slices.Clone(full), i, i+1)
		other, _, code := checkList(t, d, list)
		if at, twice := seen[other.Hash()]; code != api.OK || twice {
			t.Errorf("without command %d the result is that without command %d, error %d", i, at, code)
		}
		seen[other.Hash()] = i
	}
	// Nothing is bound behind a list: the first one does not count in the second one.
	second := []api.Command{bind(1), begin(1), draw(0, 12), end}
	a, _, _ := checkList(t, after, second)
	b, _, _ := checkList(t, d, append([]api.Command{wall(0, 1, 2), wall(2, 1, 2)}, second...))
	if x, y := mustTarget(t, a, 1), mustTarget(t, b, 1); !target.Equal(x, y) {
		t.Error("what was bound before counts")
	}
}

func mustTarget(t *testing.T, d *device.Device, id int) api.Target {
	t.Helper()
	u, found := d.Target(id)
	if !found {
		t.Fatalf("there is no target %d", id)
	}
	return u
}

// TestP50_3Rebind changes what is bound between draws and passes.
func TestP50_3Rebind(t *testing.T) {
	d := newWorld(t)
	for _, list := range [][]api.Command{
		textured(begin(1), draw(0, 12), uniforms(1, one), draw(2, 5), uniforms(60, 1, 2, 3, 4), draw(4, 8)),
		textured(begin(1), draw(0, 5), bindVertex(0, 2), draw(0, 4), api.Command{Kind: api.BindIndex, ID: 4, Index: api.Index32}, draw(0, 6), api.Command{Kind: api.BindIndex, ID: 4, Index: api.Index16}, draw(0, 6), api.Command{Kind: api.BindIndex, ID: 7, Index: api.Index16}, draw(0, 6), api.Command{Kind: api.BindIndex, ID: 7, Index: api.NoIndex}, draw(1, 6)),
		textured(begin(1), draw(0, 5), api.Command{Kind: api.BindBuffer, ID: 0}, draw(0, 5), api.Command{Kind: api.BindBuffer, Slot: 3, ID: 4}, draw(0, 5), bindTexture(0, 2), draw(3, 5), bindTexture(1, 0), draw(0, 5), bindVertex(0, 6), draw(0, 5)),
		textured(begin(2), query(0), draw(0, 12), endQuery(0), query(1), endQuery(1), bind(3), query(7), draw(0, 12), draw(3, 3), endQuery(7)),
		append(textured(begin(1), draw(0, 12)), load(1), draw(3, 9), end, bind(0), begin(0), draw(0, 12), end, load(0), uniforms(0, 5), draw(0, 5), end, bind(3), load(2), draw(0, 9), end),
	} {
		if _, at, code := checkList(t, d, list); code != api.OK {
			t.Errorf("%v has error %d at %d", list, code, at)
		}
	}
}

// TestP50_3Textures draws with textures whose contents change in the list.
func TestP50_3Textures(t *testing.T) {
	d := newWorld(t)
	list := append(textured(begin(1), draw(0, 12)), wall(0, 2, 5), copying(0, 3), wall(0, 5, 2), load(1), draw(0, 12), end)
	list = append(list, wall(3, 1, 5), resolving(1, 3), wall(3, 5, 2), bindTexture(0, 3), load(1), draw(0, 12), end, wall(3, 2, 5), resolving(1, 3), wall(3, 1, 3))
	after, at, code := checkList(t, d, list)
	if code != api.OK || fmt.Sprint(after.States()) != "[2 1 2 3 1 1 1 1]" {
		t.Fatalf("the states are %v, error %d at %d", after.States(), code, at)
	}
	// A texture gets all levels, also if it had fewer.
	for _, c := range []api.Command{copying(2, 3), resolving(0, 2)} {
		after, _, _ := checkList(t, d, []api.Command{wall(2, 1, 5), c})
		if u, _ := after.Texture(2); len(u.Levels) != 4 || !mipmap.Valid(u) {
			t.Errorf("%+v leaves %d levels", c, len(u.Levels))
		}
	}
	after, _, _ = checkList(t, d, []api.Command{wall(2, 1, 5), copying(2, 3), copying(2, 0)})
	if u, _ := after.Texture(2); !slices.Equal(u.Levels[0].Data, d.Buffer(0)[:64]) {
		t.Errorf("the texture has the bytes %v", u.Levels[0].Data)
	}
	after, _, _ = checkList(t, d, []api.Command{wall(1, 1, 5), resolving(1, 1)})
	u, _ := after.Texture(1)
	v := mustTarget(t, d, 1)
	sum := 0
	for i := range 4 {
		sum += image.Get(v.Color[i], 3, 4).X
	}
	if got := image.Get(u.Levels[0], 3, 4).X; got < sum/4-300 || got > sum/4+300 {
		t.Errorf("the resolved color is %d, and the average %d", got, sum/4)
	}
}

// TestP50_3Query counts the samples of a square.
func TestP50_3Query(t *testing.T) {
	d := newWorld(t)
	list := []api.Command{bind(0), bindVertex(0, 2), begin(0), query(5), draw(0, 3), endQuery(5), draw(0, 3), query(6), draw(0, 3), draw(0, 3), endQuery(6), query(7), endQuery(7), end}
	after, _, code := checkList(t, d, list)
	a, _ := after.Query(5)
	b, _ := after.Query(6)
	c, found := after.Query(7)
	if code != api.OK || a < 28 || a > 36 || b != 2*a || c != 0 || !found {
		t.Errorf("the results are %d, %d and %d, error %d", a, b, c, code)
	}
	// A result stays until the query is used again.
	again, _, _ := checkList(t, after, []api.Command{begin(0), query(6), endQuery(6), end})
	if x, _ := again.Query(5); x != a {
		t.Errorf("the result becomes %d", x)
	}
	if x, found := again.Query(6); x != 0 || !found {
		t.Errorf("the result becomes %d", x)
	}
}

func TestP50_4Workers(t *testing.T) {
	d := newWorld(t)
	before := written(d)
	for _, workers := range []int{0, -1, 9, 16, 1 << 32, 1<<32 + 1, largest, smallest} {
		for _, list := range [][]api.Command{nil, {begin(0), end}, {{}}, {bind(7)}, make([]api.Command, 300)} {
			if at, code := d.SubmitShuffled(list, 5, workers); at != 0 || code != api.ErrArgument {
				t.Errorf("%d workers have error %d at %d", workers, code, at)
			}
		}
	}
	if written(d) != before {
		t.Error("a rejected call changed the device")
	}
	for workers := 1; workers <= 8; workers++ {
		if at, code := d.Clone().SubmitShuffled([]api.Command{begin(0), end}, 1<<63, workers); at != 2 || code != api.OK {
			t.Errorf("%d workers have error %d at %d", workers, code, at)
		}
	}
}

// commands returns a list of commands, of which most are right for a world.
func (s *state) commands(length int) []api.Command {
	list := []api.Command{wall(0, 1, 2), wall(1, 1, 5), wall(2, 1, 2), wall(3, 1, 5), bindVertex(0, 0), bindTexture(0, 0), bindTexture(1, 2), {Kind: api.BindBuffer, ID: 4}, bind(0)}
	inside, active, used := -1, -1, 0
	for range length {
		c := []api.Command{bindVertex(s.next(2), 2*s.next(2)), uniforms(s.next(5), s.next(2*one)-one, s.next(one)), {Kind: api.BindIndex, ID: []int{1, 4, 7}[s.next(3)], Index: api.IndexType(1 + s.next(4))}, bindTexture(s.next(3), 2*s.next(2)), {Kind: api.BindBuffer, Slot: s.next(2), ID: s.next(5)}}[s.next(5)]
		switch {
		case inside >= 0 && s.next(5) == 0:
			c, inside = end, -1
			if active >= 0 {
				list = append(list, endQuery(active))
				active = -1
			}
		case inside >= 0 && s.next(6) == 0 && active < 0 && used < 8:
			c, active = query(used), used
			used++
		case inside >= 0 && s.next(2) == 0:
			c = draw(s.next(4), 1+s.next(12))
		case inside >= 0 && active >= 0 && s.next(4) == 0:
			c, active = endQuery(active), -1
		case inside < 0 && s.next(3) == 0:
			list = append(list, []api.Command{copying(3, 3), resolving(1+s.next(2), 1+2*s.next(2))}[s.next(2)])
		case inside < 0 && s.next(2) == 0:
			inside = s.next(3)
			list = append(list, bind(inside+inside/2*s.next(2)))
			c = []api.Command{begin(inside), load(inside)}[s.next(2)]
		}
		list = append(list, c)
	}
	if active >= 0 {
		list = append(list, endQuery(active))
	}
	if inside >= 0 {
		list = append(list, end)
	}
	return list
}

// TestP50_6Arbitrary compares arbitrary lists with their second reading. Rejected lists change nothing.
func TestP50_6Arbitrary(t *testing.T) {
	s := state(7)
	d := newWorld(t)
	codes, samples := map[api.Errno]int{}, 0
	for i := range 120 {
		list := s.commands(10 + s.next(25))
		if s.next(3) == 0 {
			wrong := []api.Command{bind(6), bind(s.next(4)), wall(5, 1, 2), wall(0, 3, 4), copying(1, 1), copying(0, 3), resolving(0, 1), {}, end, begin(4), draw(0, 3)}[s.next(11)]
			list = slices.Insert(list, s.next(len(list)+1), wrong)
		}
		after, _, code := checkList(t, d, list)
		codes[code]++
		for id := range 8 {
			n, _ := after.Query(id)
			samples += n
		}
		if i%5 == 0 {
			// The results of a list are the beginning of the next ones.
			d = after
			for id := range 4 {
				u, _ := d.Texture(id)
				d.SetTexture(id, u)
			}
		}
	}
	if codes[api.OK] < 60 || len(codes) < 6 || samples < 1000 {
		t.Errorf("the errors are %v, and %d samples are written", codes, samples)
	}
}

// TestP50_6Large draws into the largest target, as often as possible.
func TestP50_6Large(t *testing.T) {
	d := device.New()
	u, _ := target.New(64, 64, 8, api.RGBA8, api.D24S8)
	d.SetTarget(0, u)
	p := pipeline.Default()
	p.Samples, p.DepthFormat, p.Topology = 8, api.D24S8, api.TriangleStrip
	d.SetPipeline(0, p)
	d.SetBuffer(0, numbers(-one, -one, 0, one, one, -one, 0, one, -one, one, 0, one, one, one, 0, one))
	list := []api.Command{bind(0), bindVertex(0, 0), begin(0), query(0), draw(0, 4), endQuery(0), end}
	if at, code := d.Submit(list); at != 7 || code != api.OK {
		t.Fatalf("the commands have error %d at %d", code, at)
	}
	if n, _ := d.Query(0); n != 64*64*8 {
		t.Errorf("%d samples are written", n)
	}
	// All vertices but the first one are missing.
	many := []api.Command{bind(0), bindVertex(0, 0), begin(0)}
	many = append(append(many, slices.Repeat([]api.Command{draw(3, 1024)}, 252)...), end)
	if at, code := d.Submit(many); at != 256 || code != api.OK {
		t.Errorf("the commands have error %d at %d", code, at)
	}
}
