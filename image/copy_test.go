package image

import (
	"bytes"
	"math/big"
	"testing"

	"frustum/api"
	"frustum/codec"
)

// rectangle holds the numbers of a call of Copy.
type rectangle struct{ dx, dy, sx, sy, width, height int }

// lies reports whether 0 <= x and x + length <= limit, in exact integers.
func lies(x, length, limit int) bool {
	end := new(big.Int).Add(big.NewInt(int64(x)), big.NewInt(int64(length)))
	return x >= 0 && end.Cmp(big.NewInt(int64(limit))) <= 0
}

// expectedCopy returns what Copy must return for valid images, texel by texel.
func expectedCopy(dst, src api.Image, size int, r rectangle) (api.Image, api.Errno) {
	if dst.Format != src.Format {
		return api.Image{}, api.ErrFormat
	}
	if r.width < 0 || r.height < 0 {
		return api.Image{}, api.ErrSize
	}
	inside := lies(r.dx, r.width, dst.Width) && lies(r.dy, r.height, dst.Height) && lies(r.sx, r.width, src.Width) && lies(r.sy, r.height, src.Height)
	if !inside {
		return api.Image{}, api.ErrRange
	}
	result := dst
	result.Data = nil
	for y := range dst.Height {
		for x := range dst.Width {
			b := texelBytes(dst, size, x, y)
			if r.dx <= x && x < r.dx+r.width && r.dy <= y && y < r.dy+r.height {
				b = texelBytes(src, size, x-r.dx+r.sx, y-r.dy+r.sy)
			}
			result.Data = append(result.Data, b...)
		}
	}
	return result, api.OK
}

// checkCopy checks a result or an error of Copy, and that it leaves both images alone.
func checkCopy(t *testing.T, dst, src api.Image, r rectangle, want api.Image, wantCode api.Errno) {
	t.Helper()
	unchanged := watch(t, &dst, &src)
	got, code := Copy(dst, src, r.dx, r.dy, r.sx, r.sy, r.width, r.height)
	if code != wantCode || !isEqual(got, want) {
		t.Errorf("Copy of %+v from %v to %v is %v with %d, want %v with %d", r, src, dst, got, code, want, wantCode)
	}
	spoil(got)
	unchanged("Copy")
}

func TestP10_3Copy(t *testing.T) {
	dst := api.Image{Format: api.R8, Width: 3, Height: 3, Data: []byte{1, 2, 3, 4, 5, 6, 7, 8, 9}}
	src := api.Image{Format: api.R8, Width: 2, Height: 4, Data: []byte{10, 20, 30, 40, 50, 60, 70, 80}}
	for _, c := range []struct {
		r    rectangle
		want []byte
	}{
		{rectangle{0, 0, 0, 0, 2, 2}, []byte{10, 20, 3, 30, 40, 6, 7, 8, 9}}, {rectangle{1, 1, 0, 1, 2, 2}, []byte{1, 2, 3, 4, 30, 40, 7, 50, 60}},
		{rectangle{2, 0, 1, 1, 1, 3}, []byte{1, 2, 40, 4, 5, 60, 7, 8, 80}}, {rectangle{1, 2, 0, 3, 2, 1}, []byte{1, 2, 3, 4, 5, 6, 7, 70, 80}},
		{rectangle{0, 0, 0, 0, 0, 0}, dst.Data}, {rectangle{3, 3, 2, 4, 0, 0}, dst.Data}, {rectangle{3, 0, 2, 0, 0, 3}, dst.Data}, {rectangle{0, 3, 0, 4, 2, 0}, dst.Data},
	} {
		want := dst
		want.Data = c.want
		checkCopy(t, dst, src, c.r, want, api.OK)
	}
	for _, r := range []rectangle{
		{2, 0, 0, 0, 2, 1}, {0, 2, 0, 0, 1, 2}, {0, 0, 1, 0, 2, 1}, {0, 0, 0, 3, 1, 2}, {0, 0, 0, 0, 3, 1}, {0, 0, 0, 0, 1, 4}, {-1, 0, 0, 0, 1, 1}, {0, -1, 0, 0, 1, 1}, {0, 0, -1, 0, 1, 1}, {0, 0, 0, -1, 1, 1},
		{4, 0, 0, 0, 0, 0}, {0, 4, 0, 0, 0, 0}, {0, 0, 3, 0, 0, 0}, {0, 0, 0, 5, 0, 0}, {-1, 0, 0, 0, 0, 0}, {0, -1, 0, 0, 0, 0}, {0, 0, -1, 0, 0, 0}, {0, 0, 0, -1, 0, 0}, {0, 0, 0, 0, 3, 0}, {0, 0, 0, 0, 0, 4},
	} {
		checkCopy(t, dst, src, r, api.Image{}, api.ErrRange)
	}
}

// rectangles calls a function with all rectangles inside small images, and those that begin or end one texel beyond their sides.
func rectangles(most int, function func(r rectangle)) {
	for size := range (most + 2) * (most + 2) {
		for target := range (most + 3) * (most + 3) {
			for source := range (most + 3) * (most + 3) {
				function(rectangle{target%(most+3) - 1, target/(most+3) - 1, source%(most+3) - 1, source/(most+3) - 1, size%(most+2) - 1, size/(most+2) - 1})
			}
		}
	}
}

func TestP10_3CopyAll(t *testing.T) {
	for _, s := range formats() {
		for _, sides := range [][4]int{{3, 2, 2, 3}, {1, 3, 3, 2}, {2, 2, 2, 2}} {
			dst, src := made(s, sides[0], sides[1], 17), made(s, sides[2], sides[3], 19)
			rectangles(3, func(r rectangle) {
				want, code := expectedCopy(dst, src, s.size, r)
				checkCopy(t, dst, src, r, want, code)
			})
		}
	}
}

// TestP10_3CopySame copies within one image, so that the rectangles overlap.
func TestP10_3CopySame(t *testing.T) {
	for _, s := range formats() {
		for _, sides := range [][2]int{{3, 3}, {4, 2}} {
			m := made(s, sides[0], sides[1], 23)
			rectangles(max(sides[0], sides[1]), func(r rectangle) {
				want, code := expectedCopy(m, m, s.size, r)
				checkCopy(t, m, m, r, want, code)
			})
		}
	}
	m := api.Image{Format: api.R8, Width: 4, Height: 1, Data: []byte{1, 2, 3, 4}}
	checkCopy(t, m, m, rectangle{1, 0, 0, 0, 3, 1}, api.Image{Format: api.R8, Width: 4, Height: 1, Data: []byte{1, 1, 2, 3}}, api.OK)
	checkCopy(t, m, m, rectangle{0, 0, 1, 0, 3, 1}, api.Image{Format: api.R8, Width: 4, Height: 1, Data: []byte{2, 3, 4, 4}}, api.OK)
}

// TestP10_3CopyLarge copies between images of the largest size.
func TestP10_3CopyLarge(t *testing.T) {
	for _, s := range formats() {
		dst, src := made(s, 64, 64, 29), made(s, 64, 64, 31)
		for _, r := range []rectangle{{0, 0, 0, 0, 64, 64}, {1, 2, 3, 4, 60, 50}, {0, 63, 0, 0, 64, 1}, {63, 0, 0, 0, 1, 64}, {63, 63, 0, 0, 1, 1}, {64, 64, 64, 64, 0, 0}, {1, 0, 0, 0, 64, 64}, {0, 0, 0, 1, 64, 64}} {
			want, code := expectedCopy(dst, src, s.size, r)
			checkCopy(t, dst, src, r, want, code)
		}
	}
}

// TestP10_3CopyErrors breaks each rule alone and together with others, so that the order of the errors is seen.
func TestP10_3CopyErrors(t *testing.T) {
	valid, other := made(sized{api.RGBA8, 4}, 3, 3, 1), made(sized{api.RGB10A2, 4}, 3, 3, 2)
	short := valid
	short.Data = valid.Data[:35]
	for which := range 64 {
		is := func(rule int) bool { return which>>rule&1 == 1 }
		dst, src, r := valid, valid, rectangle{1, 1, 0, 0, 2, 2}
		want := api.OK
		if is(5) {
			r.sx, want = 2, api.ErrRange
		}
		if is(4) {
			r.dy, want = -1, api.ErrRange
		}
		if is(3) {
			r.height, want = -1, api.ErrSize
		}
		if is(2) {
			src, want = other, api.ErrFormat
		}
		if is(1) {
			// The data of one of the images are too short; it keeps its format.
			src.Data, want = src.Data[:35], api.ErrArgument
		}
		if is(0) {
			dst, want = short, api.ErrArgument
		}
		if want != api.OK {
			checkCopy(t, dst, src, r, api.Image{}, want)
		}
	}
	for _, r := range []rectangle{{0, 0, 0, 0, -1, 0}, {0, 0, 0, 0, 0, -1}, {0, 0, 0, 0, -1, -1}, {0, 0, 0, 0, -1, 100}, {0, 0, 0, 0, 100, -1}, {-5, 7, 9, -3, -1, 1}, {0, 0, 0, 0, smallest, 0}, {0, 0, 0, 0, 0, smallest}} {
		checkCopy(t, valid, valid, r, api.Image{}, api.ErrSize)
		checkCopy(t, valid, other, r, api.Image{}, api.ErrFormat)
		checkCopy(t, short, other, r, api.Image{}, api.ErrArgument)
	}
}

func TestP10_3CopyBroken(t *testing.T) {
	good := made(sized{api.RGBA8, 4}, 2, 3, 1)
	for _, b := range broken() {
		for _, r := range []rectangle{{}, {0, 0, 0, 0, 1, 1}, {-1, 0, 0, 0, 1, 1}, {0, 0, 0, 0, -1, 0}, {largest, largest, smallest, smallest, largest, largest}} {
			checkCopy(t, good, b.m, r, api.Image{}, api.ErrArgument)
			checkCopy(t, b.m, good, r, api.Image{}, api.ErrArgument)
			checkCopy(t, b.m, b.m, r, api.Image{}, api.ErrArgument)
		}
	}
}

// TestP10_3CopyFar uses each pair of far numbers for each pair of numbers, so that a sum that overflows is seen.
func TestP10_3CopyFar(t *testing.T) {
	s := sized{api.RGB565, 2}
	dst, src := made(s, 3, 2, 1), made(s, 2, 3, 2)
	far := []int{smallest, smallest + 1, smallest + 2, largest, largest - 1, largest - 2, 1 << 62, -1 << 62, 1 << 32, 1<<32 + 1, -1 << 32, 1 - 1<<32, 256, -256, 0, 1, -1}
	for first := range 6 {
		for second := range 6 {
			for _, x := range far {
				for _, y := range far {
					numbers := [6]int{0, 0, 0, 0, 1, 1}
					numbers[first], numbers[second] = x, y
					r := rectangle{numbers[0], numbers[1], numbers[2], numbers[3], numbers[4], numbers[5]}
					want, code := expectedCopy(dst, src, s.size, r)
					checkCopy(t, dst, src, r, want, code)
				}
			}
		}
	}
}

// variants returns images of which no two are equal: a valid one, and those that differ from it in one field or one byte.
func variants() []api.Image {
	good := made(sized{api.RGBA8, 4}, 2, 2, 37)
	result := []api.Image{good}
	add := func(f api.TexelFormat, width, height int, data []byte) {
		result = append(result, api.Image{Format: f, Width: width, Height: height, Data: data})
	}
	for _, f := range []api.TexelFormat{api.R8, api.RGB10A2, api.RGBA16F, 0, 7, -1, largest, smallest} {
		add(f, 2, 2, good.Data)
	}
	for _, side := range []int{1, 3, 0, -1, 4, 64, 65, largest, smallest} {
		add(api.RGBA8, side, 2, good.Data)
		add(api.RGBA8, 2, side, good.Data)
	}
	add(api.RGBA8, 4, 1, good.Data)
	add(api.RGBA8, 1, 4, good.Data)
	for i := range good.Data {
		for _, bit := range []byte{1, 0x80} {
			data := bytes.Clone(good.Data)
			data[i] ^= bit
			add(api.RGBA8, 2, 2, data)
		}
	}
	add(api.RGBA8, 2, 2, good.Data[:15])
	add(api.RGBA8, 2, 2, good.Data[:17])
	add(api.RGBA8, 2, 2, good.Data[1:])
	add(api.RGBA8, 2, 2, nil)
	add(0, 0, 0, nil)
	add(0, 0, 0, good.Data)
	return result
}

func TestP10_3Clone(t *testing.T) {
	all := variants()
	for _, s := range formats() {
		all = append(all, made(s, 3, 2, 41), made(s, 64, 64, 43))
	}
	for _, b := range broken() {
		all = append(all, b.m)
	}
	for _, m := range all {
		unchanged := watch(t, &m)
		first, second := Clone(m), Clone(m)
		checkImage(t, "a clone", first, m)
		spoil(first)
		checkImage(t, "another clone", second, m)
		unchanged("Clone")
	}
	for _, data := range [][]byte{nil, {}} {
		checkImage(t, "a clone without data", Clone(api.Image{Format: 9, Width: -1, Height: 8, Data: data}), api.Image{Format: 9, Width: -1, Height: 8})
	}
}

func TestP10_3Equal(t *testing.T) {
	all := variants()
	for i, a := range all {
		for j, b := range all {
			b.Data = bytes.Clone(b.Data)
			unchanged := watch(t, &a, &b)
			if got := Equal(a, b); got != (i == j) {
				t.Errorf("whether %v and %v are equal: %t", a, b, got)
			}
			unchanged("Equal")
		}
	}
	for _, b := range broken() {
		if !Equal(b.m, b.m) {
			t.Errorf("an image that is not valid (%s) is not equal to itself", b.why)
		}
	}
	if !Equal(api.Image{Width: 1, Data: nil}, api.Image{Width: 1, Data: []byte{}}) || !Equal(api.Image{Data: []byte{}}, api.Image{}) {
		t.Error("nil and empty data are not equal")
	}
}

func TestP10_3Hash(t *testing.T) {
	for _, c := range []struct {
		m       api.Image
		encoded string
	}{
		{api.Image{Format: api.RGBA8, Width: 1, Height: 1, Data: []byte("abcd")}, "\x04\x02\x02abcd"},
		{api.Image{Format: api.R8, Width: 3, Height: 2, Data: []byte("abcdef")}, "\x02\x06\x04abcdef"},
		{api.Image{Format: api.R8, Width: 2, Height: 3, Data: []byte("abcdef")}, "\x02\x04\x06abcdef"},
		{api.Image{Format: api.RGB565, Width: 1, Height: 1, Data: []byte("\x00\xff")}, "\x06\x02\x02\x00\xff"},
		{api.Image{Format: api.RGB10A2, Width: 1, Height: 1, Data: []byte("abcd")}, "\x08\x02\x02abcd"},
		{api.Image{Format: api.R16F, Width: 1, Height: 1, Data: []byte("\x00\xff")}, "\x0a\x02\x02\x00\xff"},
		{api.Image{Format: api.RGBA16F, Width: 1, Height: 1, Data: []byte("abcdefgh")}, "\x0c\x02\x02abcdefgh"},
		{api.Image{Format: api.R8, Width: 64, Height: 1, Data: make([]byte, 64)}, "\x02\x80\x01\x02" + string(make([]byte, 64))},
		{api.Image{Format: api.R8, Width: 1, Height: 64, Data: make([]byte, 64)}, "\x02\x02\x80\x01" + string(make([]byte, 64))},
	} {
		unchanged := watch(t, &c.m)
		if got, want := Hash(c.m), codec.Hash([]byte(c.encoded)); got != want {
			t.Errorf("the hash of %v is %#x, want %#x", c.m, got, want)
		}
		unchanged("Hash")
	}
	if got := Hash(api.Image{Format: api.R8, Width: 1, Height: 1, Data: []byte{0}}); got != 0x9e749090540f50bf {
		t.Errorf("the hash of a black texel is %#x", got)
	}
}

func TestP10_3HashImages(t *testing.T) {
	for _, s := range formats() {
		for _, sides := range [][2]int{{1, 1}, {3, 2}, {2, 3}, {63, 64}, {64, 64}} {
			m := made(s, sides[0], sides[1], 47)
			unchanged := watch(t, &m)
			b := codec.AppendInt(codec.AppendInt(codec.AppendInt(nil, int(s.f)), sides[0]), sides[1])
			if got, want := Hash(m), codec.Hash(append(b, m.Data...)); got != want || Hash(Clone(m)) != want {
				t.Errorf("the hash of format %d and size %v is %#x, want %#x", s.f, sides, got, want)
			}
			unchanged("Hash")
		}
	}
	for _, b := range broken() {
		if got := Hash(b.m); got != 0 {
			t.Errorf("the hash of an image that is not valid (%s) is %#x", b.why, got)
		}
	}
	seen := map[uint64]bool{}
	for _, m := range variants() {
		if hash := Hash(m); Valid(m) {
			if seen[hash] {
				t.Errorf("%v has the hash of another image", m)
			}
			seen[hash] = true
		}
	}
}
