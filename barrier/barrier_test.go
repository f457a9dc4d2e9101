package barrier_test

import (
	"fmt"
	"math"
	"slices"
	"testing"

	"frustum/api"
	"frustum/barrier"
	"frustum/command"
)

const (
	largest  = math.MaxInt
	smallest = math.MinInt
)

// state makes arbitrary numbers.
type state uint64

func (s *state) next(beyond int) int {
	*s = *s*6364136223846793005 + 1442695040888963407
	return int(*s>>33) % beyond
}

// states returns valid states.
func (s *state) states() []api.ResourceState {
	list := make([]api.ResourceState, 8)
	for i := range list {
		list[i] = api.ResourceState(1 + s.next(5))
	}
	return list
}

var point = api.Sampler{AddressU: 1, AddressV: 1, Magnify: 1, Minify: 1, Mipmap: 1}

func bindTexture(slot, id int) api.Command {
	return api.Command{Kind: api.BindTexture, Slot: slot, ID: id, Sampler: point}
}

func wall(id int, from, to api.ResourceState) api.Command {
	return api.Command{Kind: api.Barrier, ID: id, From: from, To: to}
}

// Commands without errors of their own.
var (
	bind  = api.Command{Kind: api.BindPipeline}
	begin = api.Command{Kind: api.BeginPass}
	end   = api.Command{Kind: api.EndPass}
	draw  = api.Command{Kind: api.Draw, Count: 3}
)

func copying(id int) api.Command {
	return api.Command{Kind: api.CopyToImage, ID: id, Slot: 7}
}

func resolving(texture int) api.Command {
	return api.Command{Kind: api.Resolve, ID: 6, Slot: texture}
}

// wrongStates returns lists of states that are not valid.
func wrongStates() [][]api.ResourceState {
	all := [][]api.ResourceState{nil, {}, {1}, slices.Repeat([]api.ResourceState{1}, 7), slices.Repeat([]api.ResourceState{1}, 9), slices.Repeat([]api.ResourceState{0}, 8)}
	for i := range 8 {
		for _, s := range []api.ResourceState{0, 6, -1, 1<<32 + 1, largest, smallest} {
			list := barrier.Initial()
			list[i] = s
			all = append(all, list)
		}
	}
	return all
}

func TestP49_1Valid(t *testing.T) {
	for s := api.ResourceState(-3); s < 10; s++ {
		if got := barrier.Valid(s); got != slices.Contains([]api.ResourceState{api.Undefined, api.ShaderRead, api.RenderTarget, api.CopySource, api.CopyTarget}, s) {
			t.Errorf("Valid(%d) is %t", s, got)
		}
	}
	for _, s := range []api.ResourceState{1 << 32, 1<<32 + 1, largest, smallest} {
		if barrier.Valid(s) {
			t.Errorf("%d is valid", s)
		}
	}
}

func TestP49_1Initial(t *testing.T) {
	got := barrier.Initial()
	if fmt.Sprint(got) != "[1 1 1 1 1 1 1 1]" {
		t.Errorf("the initial states are %v", got)
	}
	got[3] = 5
	if barrier.Initial()[3] != api.Undefined {
		t.Error("two results share memory")
	}
}

// expectedRequires is a second reading of P49.1: for each texture, whether a command requires it.
func expectedRequires(list []api.Command, at int) [][2]int {
	if at < 0 || at >= len(list) {
		return nil
	}
	switch c := list[at]; c.Kind {
	case 13:
		return [][2]int{{c.ID, 5}}
	case 14:
		return [][2]int{{c.Slot, 5}}
	case 9:
		var pairs [][2]int
		for i, b := range list[:at] {
			// A binding counts if no later one has its slot, and an earlier pair does not have its texture.
			again := slices.ContainsFunc(list[i+1:at], func(c api.Command) bool { return c.Kind == 4 && c.Slot == b.Slot })
			if b.Kind == 4 && !again && !slices.Contains(pairs, [2]int{b.ID, 2}) {
				pairs = append(pairs, [2]int{b.ID, 2})
			}
		}
		slices.SortFunc(pairs, func(a, b [2]int) int {
			if a[0] < b[0] {
				return -1
			}
			return 1
		})
		return pairs
	}
	return nil
}

func TestP49_1Requires(t *testing.T) {
	list := []api.Command{bindTexture(0, 5), bindTexture(1, 2), draw, bindTexture(0, 2), draw, bindTexture(3, 0), bindTexture(1, 7), draw, copying(4), resolving(3), begin, end, bind, wall(1, 1, 2), bindTexture(2, 2), draw, {Kind: 99}, {}}
	for i, want := range []string{"[]", "[]", "[[2 2] [5 2]]", "[]", "[[2 2]]", "[]", "[]", "[[0 2] [2 2] [7 2]]", "[[4 5]]", "[[3 5]]", "[]", "[]", "[]", "[]", "[]", "[[0 2] [2 2] [7 2]]", "[]", "[]", "[]"} {
		before := fmt.Sprint(list)
		if got := fmt.Sprint(barrier.Requires(list, i)); got != want || fmt.Sprint(list) != before {
			t.Errorf("command %d requires %s, want %s", i, got, want)
		}
	}
	for _, i := range []int{-1, 18, 19, largest, smallest, 1 << 32} {
		if got := barrier.Requires(list, i); len(got) > 0 {
			t.Errorf("command %d requires %v", i, got)
		}
	}
	for _, empty := range [][]api.Command{nil, {}} {
		if got := barrier.Requires(empty, 0); len(got) > 0 {
			t.Errorf("a command of an empty list requires %v", got)
		}
	}
	// Commands are taken as they are, also if they are not valid.
	odd := []api.Command{{Kind: 4, Slot: -1, ID: largest}, {Kind: 4, Slot: largest, ID: -7}, {Kind: 4, Slot: -1, ID: 3}, {Kind: 9}, {Kind: 13, ID: -1}, {Kind: 14, Slot: 99}}
	for i, want := range map[int]string{3: "[[-7 2] [3 2]]", 4: "[[-1 5]]", 5: "[[99 5]]"} {
		if got := fmt.Sprint(barrier.Requires(odd, i)); got != want {
			t.Errorf("command %d requires %s, want %s", i, got, want)
		}
	}
}

// commands returns a list of commands, mostly without errors apart from those of states.
func (s *state) commands(length int) []api.Command {
	list := []api.Command{}
	inside := false
	for range length {
		c := []api.Command{bindTexture(s.next(4), s.next(4)), {Kind: api.BindPipeline, ID: s.next(8)}, {Kind: api.SetUniforms, Values: []int{1}}}[s.next(3)]
		switch s.next(5) {
		case 0, 1:
			c = wall(s.next(4), api.ResourceState(1+s.next(2)*s.next(5)), []api.ResourceState{2, 5, 5, 2, 3, 4}[s.next(6)])
			if inside {
				c = draw
			}
		case 2:
			c = []api.Command{copying(s.next(4)), resolving(s.next(4))}[s.next(2)]
			if inside {
				c = draw
			}
		case 3:
			c = begin
			if inside {
				c = end
			}
			inside = !inside
		}
		list = append(list, c)
	}
	if inside {
		list = append(list, end)
	}
	return append([]api.Command{bind}, list...)
}

func TestP49_1Arbitrary(t *testing.T) {
	s := state(1)
	for range 2000 {
		list := s.commands(s.next(20))
		for i := range list {
			if got, want := barrier.Requires(list, i), expectedRequires(list, i); !slices.Equal(got, want) {
				t.Fatalf("command %d of %v requires %v, want %v", i, list, got, want)
			}
		}
	}
}

// expectedApply is a second reading of P49.2.
func expectedApply(states []api.ResourceState, c api.Command) ([]api.ResourceState, api.Errno) {
	for _, s := range states {
		if s < 1 || s > 5 {
			return nil, api.ErrArgument
		}
	}
	if len(states) != 8 || c.Kind == 10 && command.Check(c) != api.OK {
		return nil, api.ErrArgument
	}
	var after []api.ResourceState
	for i, s := range states {
		if c.Kind == 10 && i == c.ID {
			if c.From != s && c.From != 1 {
				return nil, api.ErrBarrier
			}
			s = c.To
		}
		after = append(after, s)
	}
	return after, api.OK
}

// checkApply compares Apply with its second reading.
func checkApply(t *testing.T, states []api.ResourceState, c api.Command) api.Errno {
	t.Helper()
	before := fmt.Sprint(states, c)
	want, code := expectedApply(states, c)
	got, errno := barrier.Apply(states, c)
	if errno != code || !slices.Equal(got, want) {
		t.Fatalf("the states %v become %v after %+v, error %d, want %v, error %d", states, got, c, errno, want, code)
	}
	for i := range got {
		got[i] = -9
	}
	if fmt.Sprint(states, c) != before {
		t.Fatal("an argument was changed")
	}
	return code
}

func TestP49_2Apply(t *testing.T) {
	for id := range 8 {
		for from := api.ResourceState(0); from <= 6; from++ {
			for to := api.ResourceState(0); to <= 6; to++ {
				for now := api.ResourceState(1); now <= 5; now++ {
					states := barrier.Initial()
					states[id] = now
					want := api.OK
					switch {
					case from < 1 || from > 5 || to < 2 || to > 5:
						want = api.ErrArgument
					case from != 1 && from != now:
						want = api.ErrBarrier
					}
					if got := checkApply(t, states, wall(id, from, to)); got != want {
						t.Errorf("a barrier of %d from %d to %d has error %d, want %d", now, from, to, got, want)
					}
				}
			}
		}
	}
	got, _ := barrier.Apply(barrier.Initial(), wall(3, api.Undefined, api.ShaderRead))
	if fmt.Sprint(got) != "[1 1 1 2 1 1 1 1]" {
		t.Errorf("the states become %v", got)
	}
	wrong := []api.Command{wall(8, 1, 2), wall(-1, 1, 2), wall(largest, 1, 2), {Kind: api.Barrier, Slot: 1, From: 1, To: 2}, {Kind: api.Barrier}}
	for _, c := range wrong {
		if got := checkApply(t, barrier.Initial(), c); got != api.ErrArgument {
			t.Errorf("%+v has error %d", c, got)
		}
	}
	// Other commands change nothing, whatever their fields are.
	for _, c := range []api.Command{bind, begin, end, draw, copying(3), resolving(3), bindTexture(9, 9), {}, {Kind: 99, ID: 99, To: 3}, {Kind: 9, ID: -1, From: 4, To: 5}} {
		states := []api.ResourceState{1, 2, 3, 4, 5, 1, 2, 3}
		if got := checkApply(t, states, c); got != api.OK {
			t.Errorf("%+v has error %d", c, got)
		}
		for _, states := range wrongStates() {
			if got := checkApply(t, states, c); got != api.ErrArgument {
				t.Errorf("%v has error %d", states, got)
			}
		}
	}
	for _, states := range wrongStates() {
		for _, c := range append(wrong, wall(0, 1, 2), wall(0, 3, 2)) {
			if got := checkApply(t, states, c); got != api.ErrArgument {
				t.Errorf("%v has error %d", states, got)
			}
		}
	}
}

// expected is a second reading of P49.3 and P49.4 for a list without other errors.
func expected(list []api.Command, states []api.ResourceState) (after []api.ResourceState, at int, code api.Errno, missing [][3]int) {
	states = slices.Clone(states)
	at, code = len(list), api.OK
	for i, c := range list {
		failed := false
		for _, pair := range expectedRequires(list, i) {
			if int(states[pair[0]]) != pair[1] {
				missing = append(missing, [3]int{i, pair[0], pair[1]})
				failed = true
			}
		}
		next, errno := expectedApply(states, c)
		if errno == api.OK {
			states = next
		}
		if code == api.OK && (failed || errno != api.OK) {
			at, code = i, api.ErrBarrier
		}
	}
	if code == api.OK {
		after = states
	}
	return after, at, code, missing
}

// check compares Check and Missing with their second readings.
func check(t *testing.T, list []api.Command, states []api.ResourceState) (int, api.Errno) {
	t.Helper()
	before := fmt.Sprint(list, states)
	var after []api.ResourceState
	var missing [][3]int
	at, code := command.Validate(list)
	if code == api.OK {
		if _, wrong := expectedApply(states, api.Command{}); wrong != api.OK {
			at, code = 0, wrong
		} else {
			after, at, code, missing = expected(list, states)
		}
	}
	got, i, errno := barrier.Check(list, states)
	if i != at || errno != code || !slices.Equal(got, after) {
		t.Fatalf("%+v with the states %v gives %v, %d, error %d, want %v, %d, error %d", list, states, got, i, errno, after, at, code)
	}
	for i := range got {
		got[i] = -9
	}
	triples := barrier.Missing(list, states)
	if !slices.Equal(triples, missing) || code == api.OK && len(triples) > 0 {
		t.Fatalf("%+v with the states %v misses %v, want %v", list, states, triples, missing)
	}
	if fmt.Sprint(list, states) != before {
		t.Fatal("an argument was changed")
	}
	return at, code
}

func TestP49_3Check(t *testing.T) {
	read, target := wall(0, api.Undefined, api.ShaderRead), wall(0, api.Undefined, api.CopyTarget)
	for _, c := range []struct {
		list []api.Command
		at   int
		want api.Errno
	}{
		{nil, 0, api.OK}, {[]api.Command{}, 0, api.OK}, {[]api.Command{read}, 1, api.OK}, {[]api.Command{wall(0, api.CopySource, api.ShaderRead)}, 0, api.ErrBarrier}, {[]api.Command{read, wall(0, api.ShaderRead, api.CopyTarget), copying(0)}, 3, api.OK}, {[]api.Command{read, wall(0, api.CopyTarget, api.ShaderRead)}, 1, api.ErrBarrier},
		{[]api.Command{copying(0)}, 0, api.ErrBarrier}, {[]api.Command{target, copying(0)}, 2, api.OK}, {[]api.Command{target, copying(1)}, 1, api.ErrBarrier}, {[]api.Command{target, resolving(0)}, 2, api.OK}, {[]api.Command{read, resolving(0)}, 1, api.ErrBarrier},
		{[]api.Command{bind, bindTexture(0, 0), begin, draw, end}, 3, api.ErrBarrier}, {[]api.Command{bind, read, bindTexture(0, 0), begin, draw, end}, 6, api.OK}, {[]api.Command{bind, bindTexture(0, 0), read, begin, draw, end}, 6, api.OK}, {[]api.Command{bind, begin, draw, bindTexture(0, 0), end}, 5, api.OK}, {[]api.Command{bind, read, bindTexture(0, 1), bindTexture(0, 0), begin, draw, end}, 7, api.OK}, {[]api.Command{bind, read, bindTexture(1, 1), bindTexture(0, 0), begin, draw, end}, 5, api.ErrBarrier},
		// The errors of the list itself come first, wherever they are.
		{[]api.Command{copying(0), end}, 1, api.ErrState}, {[]api.Command{copying(0), begin}, 2, api.ErrState}, {[]api.Command{copying(0), {}}, 1, api.ErrKind}, {[]api.Command{copying(0), begin, draw, end}, 2, api.ErrCommand}, {slices.Repeat([]api.Command{copying(0)}, 257), 0, api.ErrTooLong},
	} {
		if at, code := check(t, c.list, barrier.Initial()); at != c.at || code != c.want {
			t.Errorf("%v has error %d at %d, want %d at %d", c.list, code, at, c.want, c.at)
		}
		for _, states := range wrongStates() {
			at, code := check(t, c.list, states)
			if c.want == api.OK || c.want == api.ErrBarrier {
				if at != 0 || code != api.ErrArgument {
					t.Errorf("%v has error %d at %d with the states %v", c.list, code, at, states)
				}
			} else if at != c.at || code != c.want {
				t.Errorf("%v has error %d at %d with the states %v", c.list, code, at, states)
			}
		}
	}
	got, _, _ := barrier.Check([]api.Command{wall(2, 1, 5), copying(2), wall(7, 1, 3), wall(2, 5, 2)}, barrier.Initial())
	if fmt.Sprint(got) != "[1 1 2 1 1 1 1 3]" {
		t.Errorf("the states become %v", got)
	}
}

func TestP49_4Missing(t *testing.T) {
	list := []api.Command{copying(3), wall(3, api.CopySource, api.CopyTarget), copying(3), wall(3, 1, 5), copying(3), bindTexture(0, 5), bindTexture(1, 3), bindTexture(2, 4), wall(4, 1, 2), bind, begin, draw, end, resolving(0)}
	check(t, list, barrier.Initial())
	if got := fmt.Sprint(barrier.Missing(list, barrier.Initial())); got != "[[0 3 5] [2 3 5] [11 3 2] [11 5 2] [13 0 5]]" {
		t.Errorf("the commands miss %s", got)
	}
	first, second := barrier.Missing(list, barrier.Initial()), barrier.Missing(list, barrier.Initial())
	first[0][0] = 99
	if second[0][0] != 0 {
		t.Error("two results share memory")
	}
	if got := barrier.Missing(append(list, end), barrier.Initial()); len(got) > 0 {
		t.Errorf("a wrong list misses %v", got)
	}
	for _, states := range wrongStates() {
		if got := barrier.Missing(list, states); len(got) > 0 {
			t.Errorf("with the states %v the commands miss %v", states, got)
		}
	}
}

// TestP49_5Arbitrary compares Check and Missing with their second readings. Lists that Check accepts miss nothing.
func TestP49_5Arbitrary(t *testing.T) {
	s := state(2)
	seen, missing := map[api.Errno]int{}, 0
	for range 10000 {
		list, states := s.commands(s.next(12)), s.states()
		if s.next(50) == 0 {
			states[s.next(8)] = 0
		}
		if s.next(3) == 0 {
			// Barriers from Undefined in front of all uses make most lists right.
			list = slices.DeleteFunc(list, func(c api.Command) bool {
				return c.Kind == api.CopyToImage || c.Kind == api.Resolve || c.Kind == api.Barrier
			})
			for id := range 4 {
				list = append([]api.Command{wall(id, 1, 2)}, list...)
			}
		}
		_, code := check(t, list, states)
		seen[code]++
		missing += len(barrier.Missing(list, states))
	}
	if seen[api.OK] < 1000 || seen[api.ErrBarrier] < 1000 || seen[api.ErrArgument] < 50 || missing < 5000 {
		t.Errorf("the lists have the errors %v, and miss %d states", seen, missing)
	}
	long := slices.Repeat([]api.Command{bindTexture(1, 2)}, 251)
	long = append(long, bind, wall(2, 1, 2), begin, draw, end)
	if at, code := check(t, long, barrier.Initial()); at != 256 || code != api.OK {
		t.Errorf("a long list has error %d at %d", code, at)
	}
}
