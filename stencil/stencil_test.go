package stencil_test

import (
	"math"
	"testing"

	"frustum/api"
	"frustum/depth"
	"frustum/stencil"
)

const (
	largest  = math.MaxInt
	smallest = math.MinInt
)

// operations returns the operations, and unknown ones.
func operations() []api.StencilOp {
	return []api.StencilOp{api.KeepValue, api.ZeroValue, api.ReplaceValue, api.IncrementSat, api.DecrementSat, api.InvertValue, api.IncrementWrap, api.DecrementWrap, 0, 9, 10, -1, -8, 1 << 8, 1<<32 + 3, largest, smallest}
}

// functions returns the comparison functions, and unknown ones.
func functions() []api.CompareFunc {
	return []api.CompareFunc{api.Never, api.LessThan, api.EqualTo, api.LessOrEqual, api.GreaterThan, api.Different, api.GreaterOrEqual, api.Always, 0, 9, -1, largest}
}

// far returns numbers that are 0 modulo 256.
func far() []int {
	return []int{0, 256, -256, 512, 1 << 32, -1 << 32, 1 << 62, smallest, largest - 255}
}

// keep is a face that changes nothing.
var keep = api.StencilFace{Compare: api.Always, Fail: api.KeepValue, DepthFail: api.KeepValue, Pass: api.KeepValue}

// state makes arbitrary states.
type state uint64

func (s *state) next(beyond int) int {
	*s = *s*6364136223846793005 + 1442695040888963407
	return int(*s>>33) % beyond
}

// value returns a stencil value, mostly one in range.
func (s *state) value() int {
	if s.next(3) == 0 {
		return far()[s.next(9)] + s.next(256)
	}
	return s.next(256)
}

func (s *state) face() api.StencilFace {
	return api.StencilFace{Compare: functions()[s.next(9)], Fail: operations()[s.next(9)], DepthFail: operations()[s.next(9)], Pass: operations()[s.next(9)]}
}

func (s *state) stencil() api.StencilState {
	return api.StencilState{Test: s.next(6) > 0, Front: s.face(), Back: s.face(), Reference: s.value(), ReadMask: s.value(), WriteMask: s.value()}
}

// bit returns a bit of a number modulo 256.
func bit(x, i int) int {
	m := x % 256
	if m < 0 {
		m += 256
	}
	for range i {
		m /= 2
	}
	return m % 2
}

// byteOf returns a number modulo 256, bit by bit.
func byteOf(x int) int {
	sum, unit := 0, 1
	for i := range 8 {
		sum += unit * bit(x, i)
		unit *= 2
	}
	return sum
}

// expectedApply returns the value after an operation, from the list of all values in ascending order.
func expectedApply(op api.StencilOp, value, reference int) int {
	value, reference = byteOf(value), byteOf(reference)
	switch {
	case op == 2:
		return 0
	case op == 3:
		return reference
	case op == 4 && value == 255, op == 5 && value == 0:
		return value
	case op == 6:
		return 255 - value
	case op == 7 && value == 255:
		return 0
	case op == 8 && value == 0:
		return 255
	case op == 4, op == 7:
		return value + 1
	case op == 5, op == 8:
		return value - 1
	}
	return value
}

// expectedPasses compares the values bit by bit where the mask is set.
func expectedPasses(s api.StencilState, front bool, value int) bool {
	face := s.Back
	if front {
		face = s.Front
	}
	a, b := 0, 0
	for i := range 8 {
		if bit(s.ReadMask, i) == 1 {
			a += bit(s.Reference, i) << i
			b += bit(value, i) << i
		}
	}
	return !s.Test || depth.Compare(face.Compare, a, b)
}

// expectedUpdate takes each bit from the new value where the mask is set, and from the old one elsewhere.
func expectedUpdate(s api.StencilState, front bool, value int, stencilPass, depthPass bool) int {
	face := s.Back
	if front {
		face = s.Front
	}
	op := map[[2]bool]api.StencilOp{{false, false}: face.Fail, {false, true}: face.Fail, {true, false}: face.DepthFail, {true, true}: face.Pass}[[2]bool{stencilPass, depthPass}]
	n, result := expectedApply(op, value, s.Reference), 0
	for i := range 8 {
		from := value
		if s.Test && bit(s.WriteMask, i) == 1 {
			from = n
		}
		result += bit(from, i) << i
	}
	return result
}

func TestP39_1ValidOp(t *testing.T) {
	for i, op := range operations() {
		if got := stencil.ValidOp(op); got != (i < 8) {
			t.Errorf("ValidOp(%d) is %t", op, got)
		}
	}
}

func TestP39_1Valid(t *testing.T) {
	good := api.StencilState{Front: keep, Back: keep, Reference: 1, ReadMask: 255, WriteMask: 255}
	check := func(want bool, change func(s *api.StencilState)) {
		t.Helper()
		for _, test := range []bool{false, true} {
			s := good
			s.Test = test
			change(&s)
			if got := stencil.Valid(s); got != want {
				t.Errorf("Valid of %+v is %t", s, got)
			}
		}
	}
	check(true, func(*api.StencilState) {})
	for i, op := range operations() {
		check(i < 8, func(s *api.StencilState) { s.Front.Fail = op })
		check(i < 8, func(s *api.StencilState) { s.Front.DepthFail = op })
		check(i < 8, func(s *api.StencilState) { s.Front.Pass = op })
		check(i < 8, func(s *api.StencilState) { s.Back.Fail = op })
		check(i < 8, func(s *api.StencilState) { s.Back.DepthFail = op })
		check(i < 8, func(s *api.StencilState) { s.Back.Pass = op })
	}
	for i, c := range functions() {
		check(i < 8, func(s *api.StencilState) { s.Front.Compare = c })
		check(i < 8, func(s *api.StencilState) { s.Back.Compare = c })
	}
	for _, x := range []int{0, 1, 127, 128, 254, 255, 256, 257, -1, -255, -256, 1 << 32, 1<<32 + 5, largest, smallest} {
		want := x == byteOf(x)
		check(want, func(s *api.StencilState) { s.Reference = x })
		check(want, func(s *api.StencilState) { s.ReadMask = x })
		check(want, func(s *api.StencilState) { s.WriteMask = x })
	}
	if stencil.Valid(api.StencilState{}) {
		t.Error("the zero state is valid")
	}
}

func TestP39_1Face(t *testing.T) {
	s := api.StencilState{Front: keep, Back: api.StencilFace{Compare: 99, Fail: -1, DepthFail: 3, Pass: largest}}
	if stencil.Face(s, true) != s.Front || stencil.Face(s, false) != s.Back || stencil.Face(api.StencilState{}, true) != (api.StencilFace{}) {
		t.Errorf("the faces are %v and %v", stencil.Face(s, true), stencil.Face(s, false))
	}
}

func TestP39_2Apply(t *testing.T) {
	for _, c := range []struct {
		op                     api.StencilOp
		value, reference, want int
	}{
		{api.KeepValue, 7, 9, 7}, {api.ZeroValue, 7, 9, 0}, {api.ReplaceValue, 7, 9, 9}, {api.IncrementSat, 7, 9, 8}, {api.IncrementSat, 255, 0, 255}, {api.IncrementSat, 254, 0, 255}, {api.DecrementSat, 7, 9, 6}, {api.DecrementSat, 0, 9, 0}, {api.DecrementSat, 1, 9, 0}, {api.InvertValue, 7, 9, 248}, {api.InvertValue, 0, 9, 255}, {api.IncrementWrap, 255, 0, 0}, {api.IncrementWrap, 254, 0, 255}, {api.DecrementWrap, 0, 9, 255}, {api.DecrementWrap, 1, 9, 0}, {0, 7, 9, 7}, {9, 7, 9, 7}, {largest, 7, 9, 7},
		// Values are reduced modulo 256.
		{api.KeepValue, 256, 9, 0}, {api.KeepValue, -1, 9, 255}, {api.ReplaceValue, 7, 265, 9}, {api.ReplaceValue, 7, -1, 255}, {api.IncrementSat, 511, 0, 255}, {api.IncrementSat, -1, 0, 255}, {api.DecrementSat, 256, 9, 0}, {api.DecrementSat, -256, 9, 0}, {api.IncrementWrap, -1, 0, 0}, {api.IncrementWrap, largest, 0, 0}, {api.DecrementWrap, smallest, 0, 255}, {api.InvertValue, smallest, 0, 255}, {0, 300, 0, 44}, {9, -1, 0, 255},
	} {
		if got := stencil.Apply(c.op, c.value, c.reference); got != c.want {
			t.Errorf("Apply(%d, %d, %d) is %d, want %d", c.op, c.value, c.reference, got, c.want)
		}
	}
	for _, op := range operations() {
		for value := range 256 {
			for i, more := range far() {
				reference := 37*value + i + far()[(value+i)%9]
				if got, want := stencil.Apply(op, value+more, reference), expectedApply(op, value+more, reference); got != want {
					t.Errorf("Apply(%d, %d, %d) is %d, want %d", op, value+more, reference, got, want)
				}
			}
		}
	}
}

func TestP39_3Passes(t *testing.T) {
	with := func(c api.CompareFunc, reference, readMask int) api.StencilState {
		return api.StencilState{Test: true, Front: api.StencilFace{Compare: c}, Back: api.StencilFace{Compare: api.Never}, Reference: reference, ReadMask: readMask}
	}
	for _, c := range []struct {
		s     api.StencilState
		value int
		want  bool
	}{
		// The reference is compared with the value, in this order.
		{with(api.LessThan, 5, 255), 6, true}, {with(api.LessThan, 5, 255), 5, false}, {with(api.LessThan, 6, 255), 5, false}, {with(api.GreaterThan, 6, 255), 5, true}, {with(api.EqualTo, 6, 255), 6, true}, {with(api.Always, 6, 0), 99, true}, {with(api.Never, 6, 255), 6, false},
		// Only the bits of the mask count.
		{with(api.EqualTo, 0x16, 0x0f), 0xa6, true}, {with(api.EqualTo, 0x16, 0xff), 0xa6, false}, {with(api.EqualTo, 1, 0), 2, true}, {with(api.LessThan, 0xf1, 0x0f), 0x02, true},
		{with(api.EqualTo, 256+6, 255), 6, true}, {with(api.EqualTo, 6, 255), 6 - 256, true}, {with(api.EqualTo, 6, 256), 7, true}, {with(api.EqualTo, 6, -1), 6 + 1<<32, true}, {with(api.EqualTo, 6, -1), 7, false}, {with(api.LessThan, -1, 255), 0, false}, {with(0, 6, 255), 6, false}, {with(9, 6, 255), 6, false},
	} {
		if got := stencil.Passes(c.s, true, c.value); got != c.want {
			t.Errorf("Passes of %+v and %d is %t", c.s, c.value, got)
		}
		if stencil.Passes(c.s, false, c.value) {
			t.Errorf("the back face of %+v passes", c.s)
		}
		c.s.Test = false
		if !stencil.Passes(c.s, true, c.value) || !stencil.Passes(c.s, false, c.value) {
			t.Errorf("%+v does not pass", c.s)
		}
	}
}

func TestP39_3Update(t *testing.T) {
	s := api.StencilState{Test: true, Front: api.StencilFace{Fail: api.ZeroValue, DepthFail: api.InvertValue, Pass: api.ReplaceValue}, Back: api.StencilFace{Fail: api.IncrementWrap, DepthFail: api.DecrementWrap, Pass: api.KeepValue}, Reference: 0x5a, WriteMask: 255}
	for _, c := range []struct {
		front, stencilPass, depthPass bool
		want                          int
	}{
		{true, false, false, 0}, {true, false, true, 0}, {true, true, false, 0xf0}, {true, true, true, 0x5a}, {false, false, false, 0x10}, {false, false, true, 0x10}, {false, true, false, 0x0e}, {false, true, true, 0x0f},
	} {
		if got := stencil.Update(s, c.front, 0x0f, c.stencilPass, c.depthPass); got != c.want {
			t.Errorf("the value becomes %#x with %+v", got, c)
		}
		for mask, want := range map[int]int{0: 0x0f, 0x0f: c.want & 0x0f, 0xf0: c.want&0xf0 | 0x0f, 256 + 0xf0: c.want&0xf0 | 0x0f, -1: c.want, -256: 0x0f} {
			masked := s
			masked.WriteMask = mask
			if got := stencil.Update(masked, c.front, 0x0f+512, c.stencilPass, c.depthPass); got != want {
				t.Errorf("the value becomes %#x with %+v and the mask %#x, want %#x", got, c, mask, want)
			}
		}
		off := s
		off.Test = false
		for value, want := range map[int]int{0: 0, 255: 255, 256: 0, -1: 255, smallest: 0, largest: 255} {
			if got := stencil.Update(off, c.front, value, c.stencilPass, c.depthPass); got != want {
				t.Errorf("without the test %d becomes %d, want %d", value, got, want)
			}
		}
	}
}

// TestP39_4Arbitrary compares Passes and Update with their second readings, and shows that Update changes only bits of the mask.
func TestP39_4Arbitrary(t *testing.T) {
	s := state(1)
	passed, changed := 0, 0
	for range 60000 {
		u, value := s.stencil(), s.value()
		front, stencilPass, depthPass := s.next(2) == 0, s.next(2) == 0, s.next(2) == 0
		want := expectedPasses(u, front, value)
		if got := stencil.Passes(u, front, value); got != want {
			t.Fatalf("Passes of %+v, %t and %d is %t", u, front, value, got)
		}
		got, next := stencil.Update(u, front, value, stencilPass, depthPass), expectedUpdate(u, front, value, stencilPass, depthPass)
		if got != next {
			t.Fatalf("%d becomes %d with %+v, want %d", value, got, u, next)
		}
		for i := range 8 {
			if bit(u.WriteMask, i) == 0 && bit(got, i) != bit(value, i) {
				t.Fatalf("%d becomes %d with %+v", value, got, u)
			}
		}
		if want && u.Test {
			passed++
		}
		if got != byteOf(value) {
			changed++
		}
	}
	if passed < 10000 || changed < 10000 {
		t.Errorf("only %d values pass, and %d change", passed, changed)
	}
}
