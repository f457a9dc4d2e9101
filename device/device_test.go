package device_test

import (
	"fmt"
	"math"
	"math/big"
	"slices"
	"testing"

	"frustum/api"
	"frustum/device"
	"frustum/image"
	"frustum/mipmap"
	"frustum/pipeline"
	"frustum/target"
)

const (
	one      = api.One
	largest  = math.MaxInt
	smallest = math.MinInt
)

// state makes arbitrary numbers.
type state uint64

func (s *state) next(beyond int) int {
	*s = *s*6364136223846793005 + 1442695040888963407
	return int(*s>>33) % beyond
}

// wrongIDs returns numbers that are no IDs.
func wrongIDs() []int {
	return []int{-1, 8, 9, 64, 1 << 32, largest, smallest}
}

// texture returns a texture with arbitrary texels.
func (s *state) texture(f api.TexelFormat, width, height int) api.Texture {
	m, _ := image.New(f, width, height)
	for i := range m.Data {
		m.Data[i] = byte(s.next(256))
	}
	t, _ := mipmap.Chain(m)
	return t
}

// target returns a target with arbitrary contents.
func (s *state) target(f api.TexelFormat, d api.DepthFormat, width, height, samples int) api.Target {
	t, _ := target.New(width, height, samples, f, d)
	for _, m := range t.Color {
		for i := range m.Data {
			m.Data[i] = byte(s.next(120))
		}
	}
	for i := range t.Depths {
		if d != api.NoDepth {
			t.Depths[i] = s.next(65536)
		}
		if d == api.D24S8 {
			t.Stencils[i] = s.next(256)
		}
	}
	return t
}

// written returns all that a device returns.
func written(d *device.Device) string {
	text := fmt.Sprint(d.States(), d.Hash())
	for id := range 8 {
		t, a := d.Texture(id)
		u, b := d.Target(id)
		p, c := d.Pipeline(id)
		n, e := d.Query(id)
		text += fmt.Sprint(id, d.Buffer(id), t, a, u, b, p, c, n, e)
	}
	return text
}

func TestP50_1New(t *testing.T) {
	d, other := device.New(), device.New()
	if got := fmt.Sprint(d.States()); got != "[1 1 1 1 1 1 1 1]" || d.Hash() != 0 {
		t.Errorf("a new device has the states %s and the hash %d", got, d.Hash())
	}
	for id := range 8 {
		checkEmpty(t, d, id)
	}
	d.SetBuffer(0, []byte{1})
	if len(other.Buffer(0)) > 0 {
		t.Error("two devices share a buffer")
	}
}

// checkEmpty checks that there is nothing with an ID.
func checkEmpty(t *testing.T, d *device.Device, id int) {
	t.Helper()
	u, a := d.Texture(id)
	v, b := d.Target(id)
	p, c := d.Pipeline(id)
	n, e := d.Query(id)
	if len(d.Buffer(id)) > 0 || a || b || c || e || n != 0 || len(u.Levels) > 0 || !target.Equal(v, api.Target{}) || !pipeline.Equal(p, api.Pipeline{}) {
		t.Errorf("there is something with the ID %d", id)
	}
}

func TestP50_1SetBuffer(t *testing.T) {
	d := device.New()
	for id := range 8 {
		data := append(make([]byte, 0, 9), 5, byte(id), 7)
		if code := d.SetBuffer(id, data); code != api.OK {
			t.Errorf("buffer %d has error %d", id, code)
		}
		data[0] = 99
		got := d.Buffer(id)
		if !slices.Equal(got, []byte{5, byte(id), 7}) {
			t.Errorf("buffer %d is %v", id, got)
		}
		got[1] = 99
		if got := d.Buffer(id); !slices.Equal(got, []byte{5, byte(id), 7}) {
			t.Errorf("buffer %d is changed to %v", id, got)
		}
	}
	for _, size := range []int{65536, 65535, 1, 0} {
		if code := d.SetBuffer(2, make([]byte, size)); code != api.OK || len(d.Buffer(2)) != size {
			t.Errorf("a buffer of %d bytes has error %d", size, code)
		}
	}
	if code := d.SetBuffer(2, nil); code != api.OK || len(d.Buffer(2)) != 0 {
		t.Errorf("an empty buffer has error %d", code)
	}
	before := written(d)
	for _, size := range []int{65537, 100000} {
		if code := d.SetBuffer(3, make([]byte, size)); code != api.ErrTooLong {
			t.Errorf("a buffer of %d bytes has error %d", size, code)
		}
	}
	for _, id := range wrongIDs() {
		for _, size := range []int{0, 5, 65537} {
			if code := d.SetBuffer(id, make([]byte, size)); code != api.ErrRange {
				t.Errorf("buffer %d of %d bytes has error %d", id, size, code)
			}
		}
		checkEmpty(t, d, id)
	}
	if written(d) != before {
		t.Error("a rejected call changed the device")
	}
}

func TestP50_1SetTexture(t *testing.T) {
	d, s := device.New(), state(1)
	for id := range 8 {
		u := s.texture(api.TexelFormat(1+id%6), 1+id, 3)
		want := fmt.Sprint(u)
		if code := d.SetTexture(id, u); code != api.OK {
			t.Errorf("texture %d has error %d", id, code)
		}
		u.Levels[0].Data[0]++
		u.Levels[len(u.Levels)-1].Width++
		got, found := d.Texture(id)
		if !found || fmt.Sprint(got) != want {
			t.Errorf("texture %d is %v", id, got)
		}
		got.Levels[0].Data[0]++
		got.Levels[0].Height++
		if again, _ := d.Texture(id); fmt.Sprint(again) != want {
			t.Errorf("texture %d is changed to %v", id, again)
		}
	}
	good := s.texture(api.RGBA8, 4, 4)
	if code := d.SetTexture(5, api.Texture{Levels: good.Levels[:1]}); code != api.OK {
		t.Errorf("a texture with one level has error %d", code)
	}
	before := written(d)
	for _, wrong := range []api.Texture{{}, {Levels: []api.Image{}}, {Levels: []api.Image{{}}}, {Levels: append(slices.Clone(good.Levels), good.Levels[0])}, {Levels: []api.Image{good.Levels[0], good.Levels[0]}}} {
		for id := range 8 {
			if code := d.SetTexture(id, wrong); code != api.ErrArgument {
				t.Errorf("a wrong texture has error %d", code)
			}
		}
		for _, id := range wrongIDs() {
			if code := d.SetTexture(id, wrong); code != api.ErrRange {
				t.Errorf("a wrong texture %d has error %d", id, code)
			}
		}
	}
	for _, id := range wrongIDs() {
		if code := d.SetTexture(id, good); code != api.ErrRange {
			t.Errorf("texture %d has error %d", id, code)
		}
		checkEmpty(t, d, id)
	}
	if written(d) != before {
		t.Error("a rejected call changed the device")
	}
	// A new texture is in the state Undefined.
	list := []api.Command{{Kind: api.Barrier, ID: 1, From: 1, To: 2}, {Kind: api.Barrier, ID: 2, From: 1, To: 3}}
	if n, code := d.Submit(list); n != 2 || code != api.OK || fmt.Sprint(d.States()) != "[1 2 3 1 1 1 1 1]" {
		t.Errorf("the states are %v, error %d", d.States(), code)
	}
	if d.SetTexture(2, api.Texture{}); fmt.Sprint(d.States()) != "[1 2 3 1 1 1 1 1]" {
		t.Errorf("the states become %v", d.States())
	}
	if d.SetTexture(2, good); fmt.Sprint(d.States()) != "[1 2 1 1 1 1 1 1]" {
		t.Errorf("the states become %v", d.States())
	}
}

func TestP50_1SetTarget(t *testing.T) {
	d, s := device.New(), state(2)
	for id := range 8 {
		u := s.target(api.TexelFormat(1+id%6), api.DepthFormat(1+id%3), 1+id, 2, 1<<(id%4))
		want := target.Clone(u)
		if code := d.SetTarget(id, u); code != api.OK {
			t.Errorf("target %d has error %d", id, code)
		}
		u.Color[0].Data[0]++
		u.Depths[0]++
		u.Stencils[0]++
		got, found := d.Target(id)
		if !found || !target.Equal(got, want) {
			t.Errorf("target %d is %v", id, got)
		}
		got.Color[0].Data[0]++
		got.Depths[0]++
		got.Stencils[0]++
		if again, _ := d.Target(id); !target.Equal(again, want) {
			t.Errorf("target %d is changed to %v", id, again)
		}
	}
	before := written(d)
	good := s.target(api.R8, api.D16, 2, 2, 2)
	wrong := target.Clone(good)
	wrong.Depths[0] = 65536
	for _, u := range []api.Target{{}, wrong} {
		for id := range 8 {
			if code := d.SetTarget(id, u); code != api.ErrArgument {
				t.Errorf("a wrong target has error %d", code)
			}
		}
	}
	for _, id := range wrongIDs() {
		if a, b := d.SetTarget(id, good), d.SetTarget(id, wrong); a != api.ErrRange || b != api.ErrRange {
			t.Errorf("target %d has the errors %d and %d", id, a, b)
		}
		checkEmpty(t, d, id)
	}
	if written(d) != before {
		t.Error("a rejected call changed the device")
	}
}

func TestP50_1SetPipeline(t *testing.T) {
	d := device.New()
	for id := range 8 {
		p := pipeline.Default()
		p.Samples, p.Viewport.Width = 1<<(id%4), 1+id
		want := fmt.Sprint(p)
		if code := d.SetPipeline(id, p); code != api.OK {
			t.Errorf("pipeline %d has error %d", id, code)
		}
		p.Attributes[0].Stride++
		p.Vertex.Code[0].Imm++
		p.Fragment.Code[0].Imm++
		got, found := d.Pipeline(id)
		if !found || fmt.Sprint(got) != want {
			t.Errorf("pipeline %d is %v", id, got)
		}
		got.Attributes[0].Stride++
		got.Vertex.Code[0].Imm++
		got.Fragment.Code[0].Imm++
		if again, _ := d.Pipeline(id); fmt.Sprint(again) != want {
			t.Errorf("pipeline %d is changed to %v", id, again)
		}
	}
	whole, _ := newWorld(t).Pipeline(3)
	want := fmt.Sprint(whole)
	d.SetPipeline(0, whole)
	whole.Geometry.Code[0].Imm++
	got, _ := d.Pipeline(0)
	if !got.HasGeometry || fmt.Sprint(got) != want {
		t.Errorf("the pipeline with a geometry stage is %v", got)
	}
	got.Geometry.Code[0].Imm++
	if again, _ := d.Pipeline(0); fmt.Sprint(again) != want {
		t.Errorf("the pipeline with a geometry stage is changed to %v", again)
	}
	before := written(d)
	changes := map[api.Errno]func(p *api.Pipeline){
		api.ErrShader: func(p *api.Pipeline) { p.Vertex = api.Program{} }, api.ErrCount: func(p *api.Pipeline) { p.Attributes = nil }, api.ErrLink: func(p *api.Pipeline) { p.Fragment.Inputs = 1 }, api.ErrKind: func(p *api.Pipeline) { p.Cull = 0 }, api.ErrRange: func(p *api.Pipeline) { p.Viewport.Height = 65 }, api.ErrState: func(p *api.Pipeline) { p.Blend.Mask = 16 }, api.ErrFormat: func(p *api.Pipeline) { p.Format = 9 }, api.ErrSize: func(p *api.Pipeline) { p.Samples = 3 },
	}
	for want, change := range changes {
		p := pipeline.Default()
		change(&p)
		for id := range 8 {
			if code := d.SetPipeline(id, p); code != want {
				t.Errorf("a wrong pipeline has error %d, want %d", code, want)
			}
		}
		for _, id := range wrongIDs() {
			if a, b := d.SetPipeline(id, p), d.SetPipeline(id, pipeline.Default()); a != api.ErrRange || b != api.ErrRange {
				t.Errorf("pipeline %d has the errors %d and %d", id, a, b)
			}
			checkEmpty(t, d, id)
		}
	}
	if written(d) != before {
		t.Error("a rejected call changed the device")
	}
}

// TestP50_1Nil calls all methods of devices without resources.
func TestP50_1Nil(t *testing.T) {
	s := state(3)
	for _, d := range []*device.Device{nil, {}, new(device.Device)} {
		for _, id := range []int{0, 7, 8, -1} {
			if a, b, c, e := d.SetBuffer(id, make([]byte, 70000)), d.SetTexture(id, s.texture(api.R8, 1, 1)), d.SetTarget(id, api.Target{}), d.SetPipeline(id, pipeline.Default()); a != api.ErrNil || b != api.ErrNil || c != api.ErrNil || e != api.ErrNil {
				t.Errorf("the errors are %d, %d, %d and %d", a, b, c, e)
			}
			checkEmpty(t, d, id)
		}
		for _, list := range [][]api.Command{nil, {}, {{}}, {{Kind: api.BeginPass}, {Kind: api.EndPass}}, make([]api.Command, 300)} {
			a, x := d.Check(list)
			b, y := d.Submit(list)
			c, z := d.SubmitShuffled(list, 5, 1)
			e, w := d.SubmitShuffled(list, 5, 0)
			if a != 0 || b != 0 || c != 0 || e != 0 || x != api.ErrNil || y != api.ErrNil || z != api.ErrNil || w != api.ErrNil {
				t.Errorf("the errors are %d, %d, %d and %d", x, y, z, w)
			}
		}
		if d.Clone() != nil || d.Hash() != 0 || len(d.States()) > 0 {
			t.Error("a device without resources has some")
		}
	}
}

func TestP50_5Clone(t *testing.T) {
	d, s := device.New(), state(4)
	fill := func(d *device.Device, id int) {
		d.SetBuffer(id, []byte{byte(s.next(256)), 3})
		d.SetTexture(id, s.texture(api.RGBA8, 2, 2))
		d.SetTarget(id, s.target(api.RGBA8, api.D24S8, 2, 2, 2))
		p := pipeline.Default()
		p.Samples, p.DepthFormat, p.Viewport.Width, p.Viewport.Height, p.Blend.Mask = 2, api.D24S8, 2, 2, s.next(16)
		d.SetPipeline(id, p)
	}
	fill(d, 0)
	fill(d, 3)
	list := []api.Command{{Kind: api.Barrier, ID: 3, From: 1, To: 5}, {Kind: api.Resolve, ID: 0, Slot: 3}, {Kind: api.BeginPass, ID: 3}, {Kind: api.BeginQuery, ID: 2}, {Kind: api.EndQuery, ID: 2}, {Kind: api.EndPass}}
	if n, code := d.Submit(list); n != 6 || code != api.OK {
		t.Fatalf("the commands have error %d at %d", code, n)
	}
	before := written(d)
	clone := d.Clone()
	if written(clone) != before || clone.Hash() != d.Hash() || clone == d {
		t.Fatal("a clone differs from the device")
	}
	// Changes of one do not reach the other.
	fill(clone, 0)
	fill(clone, 5)
	clone.Submit([]api.Command{{Kind: api.Barrier, ID: 3, From: 5, To: 2}, {Kind: api.BeginPass, ID: 3, ClearStencil: 7}, {Kind: api.BeginQuery, ID: 4}, {Kind: api.EndQuery, ID: 4}, {Kind: api.EndPass}})
	if written(d) != before {
		t.Error("a change of the clone changed the device")
	}
	changed := written(clone)
	fill(d, 3)
	d.Submit(list)
	if written(clone) != changed || changed == before {
		t.Error("a change of the device changed the clone")
	}
}

func TestP50_5Hash(t *testing.T) {
	d, s := device.New(), state(5)
	check := func() {
		t.Helper()
		sum, modulus := new(big.Int), new(big.Int).Lsh(big.NewInt(1), 64)
		for id := range 8 {
			if u, found := d.Target(id); found {
				sum.Add(sum, new(big.Int).Mul(new(big.Int).SetUint64(target.Hash(u)), big.NewInt(int64(id+1))))
			}
			if u, found := d.Texture(id); found {
				sum.Add(sum, new(big.Int).Mul(new(big.Int).SetUint64(mipmap.Hash(u)), big.NewInt(int64(id+101))))
			}
		}
		if got, want := d.Hash(), sum.Mod(sum, modulus).Uint64(); got != want {
			t.Errorf("the hash is %#x, want %#x", got, want)
		}
	}
	check()
	for range 30 {
		d.SetTarget(s.next(8), s.target(api.R8, api.D16, 1+s.next(3), 1, 1))
		check()
		d.SetTexture(s.next(8), s.texture(api.R8, 1+s.next(3), 1))
		check()
	}
	before := d.Hash()
	d.SetBuffer(0, []byte{1})
	d.SetPipeline(0, pipeline.Default())
	if d.Hash() != before {
		t.Error("buffers and pipelines change the hash")
	}
}

func TestP50_5Query(t *testing.T) {
	d, s := device.New(), state(6)
	d.SetTarget(0, s.target(api.R8, api.NoDepth, 1, 1, 1))
	query := func(id int) []api.Command {
		return []api.Command{{Kind: api.BeginPass}, {Kind: api.BeginQuery, ID: id}, {Kind: api.EndQuery, ID: id}, {Kind: api.EndPass}}
	}
	checkEmpty(t, d, 3)
	if _, code := d.Submit(query(3)); code != api.OK {
		t.Fatalf("a query has error %d", code)
	}
	for id := range 8 {
		if n, found := d.Query(id); n != 0 || found != (id == 3) {
			t.Errorf("query %d has the result %d, %t", id, n, found)
		}
	}
	for _, id := range wrongIDs() {
		if n, found := d.Query(id); n != 0 || found {
			t.Errorf("query %d has the result %d, %t", id, n, found)
		}
	}
	states := d.States()
	states[0] = 4
	if fmt.Sprint(d.States()) != "[1 1 1 1 1 1 1 1]" {
		t.Error("the states share memory with the device")
	}
}
