package command_test

import (
	"fmt"
	"slices"
	"testing"

	"frustum/api"
	"frustum/command"
)

// number returns how many commands of a list have a kind.
func number(list []api.Command, k api.CommandKind) int {
	count := 0
	for _, c := range list {
		if c.Kind == k {
			count++
		}
	}
	return count
}

// active returns the ID of the query that is active behind a list without errors, or -1.
func active(list []api.Command) int {
	for i := len(list) - 1; i >= 0; i-- {
		switch list[i].Kind {
		case api.BeginQuery:
			return list[i].ID
		case api.EndQuery:
			return -1
		}
	}
	return -1
}

// expectedError is a second reading of P48.3 for the command behind a list without errors, which is looked at again for each of them.
func expectedError(before []api.Command, c api.Command) api.Errno {
	inside := number(before, api.BeginPass) > number(before, api.EndPass)
	outsideOnly := slices.Contains([]api.CommandKind{api.BeginPass, api.CopyToImage, api.Resolve, api.Barrier}, c.Kind)
	insideOnly := slices.Contains([]api.CommandKind{api.EndPass, api.Draw, api.BeginQuery, api.EndQuery}, c.Kind)
	used := slices.ContainsFunc(before, func(b api.Command) bool { return b.Kind == api.BeginQuery && b.ID == c.ID })
	switch {
	case expectedCheck(c) != api.OK:
		return expectedCheck(c)
	case outsideOnly && inside, insideOnly && !inside:
		return api.ErrState
	case c.Kind == api.Draw && number(before, api.BindPipeline) == 0:
		return api.ErrCommand
	case c.Kind == api.BeginQuery && (used || active(before) >= 0), c.Kind == api.EndQuery && active(before) != c.ID, c.Kind == api.EndPass && active(before) >= 0:
		return api.ErrQuery
	}
	return api.OK
}

// expectedValidate is a second reading of P48.3.
func expectedValidate(list []api.Command) (int, api.Errno) {
	if len(list) > 256 {
		return 0, api.ErrTooLong
	}
	for i, c := range list {
		if code := expectedError(list[:i], c); code != api.OK {
			return i, code
		}
	}
	if number(list, api.BeginPass) > number(list, api.EndPass) {
		return len(list), api.ErrState
	}
	return len(list), api.OK
}

// checkList compares Validate, Passes and Draws with their second readings.
func checkList(t *testing.T, list []api.Command) (int, api.Errno) {
	t.Helper()
	at, code := expectedValidate(list)
	if i, got := command.Validate(list); i != at || got != code {
		t.Fatalf("%+v has error %d at %d, want %d at %d", list, got, i, code, at)
	}
	var passes [][2]int
	for i, c := range list {
		if c.Kind == api.BeginPass && code == api.OK {
			end := slices.IndexFunc(list[i:], func(c api.Command) bool { return c.Kind == api.EndPass })
			passes = append(passes, [2]int{i, i + end})
		}
	}
	if got := command.Passes(list); !slices.Equal(got, passes) {
		t.Fatalf("%+v has the passes %v, want %v", list, got, passes)
	}
	if got := command.Draws(list); got != number(list, api.Draw) {
		t.Fatalf("%+v has %d draws", list, got)
	}
	return at, code
}

// Commands without errors of their own, apart from wrong.
var (
	bind      = api.Command{Kind: api.BindPipeline}
	begin     = api.Command{Kind: api.BeginPass, ID: 1}
	end       = api.Command{Kind: api.EndPass}
	draw      = api.Command{Kind: api.Draw, Count: 3}
	query     = api.Command{Kind: api.BeginQuery, ID: 2}
	other     = api.Command{Kind: api.BeginQuery, ID: 3}
	endQuery  = api.Command{Kind: api.EndQuery, ID: 2}
	endOther  = api.Command{Kind: api.EndQuery, ID: 3}
	wall      = api.Command{Kind: api.Barrier, From: api.Undefined, To: api.CopyTarget}
	copying   = api.Command{Kind: api.CopyToImage}
	resolving = api.Command{Kind: api.Resolve}
	uniforms  = api.Command{Kind: api.SetUniforms, Values: []int{1}}
	wrong     = api.Command{Kind: api.Draw}
)

func TestP48_3Validate(t *testing.T) {
	for _, c := range []struct {
		list []api.Command
		at   int
		want api.Errno
	}{
		{nil, 0, api.OK}, {[]api.Command{}, 0, api.OK}, {[]api.Command{begin, end}, 2, api.OK}, {[]api.Command{draw}, 0, api.ErrState}, {[]api.Command{bind, draw}, 1, api.ErrState}, {[]api.Command{begin, draw, end}, 1, api.ErrCommand}, {[]api.Command{begin, bind, draw, end}, 4, api.OK}, {[]api.Command{bind, begin, draw, end, begin, draw, end}, 7, api.OK},
		{[]api.Command{begin}, 1, api.ErrState}, {[]api.Command{begin, begin}, 1, api.ErrState}, {[]api.Command{end}, 0, api.ErrState}, {[]api.Command{begin, end, end}, 2, api.ErrState}, {[]api.Command{begin, wall, end}, 1, api.ErrState}, {[]api.Command{begin, copying, end}, 1, api.ErrState}, {[]api.Command{begin, resolving, end}, 1, api.ErrState}, {[]api.Command{wall, copying, resolving, uniforms}, 4, api.OK}, {[]api.Command{begin, uniforms, end}, 3, api.OK}, {[]api.Command{query}, 0, api.ErrState}, {[]api.Command{endQuery}, 0, api.ErrState},
		{[]api.Command{begin, query, endQuery, end}, 4, api.OK}, {[]api.Command{begin, query, end}, 2, api.ErrQuery}, {[]api.Command{begin, query}, 2, api.ErrState}, {[]api.Command{begin, query, query}, 2, api.ErrQuery}, {[]api.Command{begin, query, other}, 2, api.ErrQuery}, {[]api.Command{begin, query, endOther}, 2, api.ErrQuery}, {[]api.Command{begin, endQuery}, 1, api.ErrQuery}, {[]api.Command{begin, query, endQuery, query, endQuery, end}, 3, api.ErrQuery}, {[]api.Command{begin, query, endQuery, other, endOther, end}, 6, api.OK}, {[]api.Command{begin, query, endQuery, end, begin, query}, 5, api.ErrQuery}, {[]api.Command{begin, query, endQuery, endQuery}, 3, api.ErrQuery},
		// The error of the command itself comes before that of its place, and an earlier command before a later one.
		{[]api.Command{wrong}, 0, api.ErrRange}, {[]api.Command{begin, wrong}, 1, api.ErrRange}, {[]api.Command{draw, wrong}, 0, api.ErrState}, {[]api.Command{begin, draw, wrong}, 1, api.ErrCommand}, {[]api.Command{end, {}}, 0, api.ErrState}, {[]api.Command{{}, end}, 0, api.ErrKind}, {[]api.Command{{Kind: api.EndPass, ID: 1}}, 0, api.ErrArgument},
	} {
		if at, code := checkList(t, c.list); at != c.at || code != c.want {
			t.Errorf("%v has error %d at %d, want %d at %d", c.list, code, at, c.want, c.at)
		}
	}
}

func TestP48_3TooLong(t *testing.T) {
	for _, c := range []struct {
		count int
		with  api.Command
		at    int
		want  api.Errno
	}{{256, uniforms, 256, api.OK}, {257, uniforms, 0, api.ErrTooLong}, {257, wrong, 0, api.ErrTooLong}, {5000, end, 0, api.ErrTooLong}, {256, wrong, 0, api.ErrRange}} {
		if at, code := checkList(t, slices.Repeat([]api.Command{c.with}, c.count)); at != c.at || code != c.want {
			t.Errorf("%d commands have error %d at %d, want %d at %d", c.count, code, at, c.want, c.at)
		}
	}
	list := slices.Repeat([]api.Command{begin, end}, 128)
	if at, code := checkList(t, list); at != 256 || code != api.OK || len(command.Passes(list)) != 128 {
		t.Errorf("128 passes have error %d at %d", code, at)
	}
	if at, code := checkList(t, append(list[:255:255], begin)); at != 255 || code != api.ErrState {
		t.Errorf("a pass in a pass has error %d at %d", code, at)
	}
	// All queries, each of which is used once.
	list = []api.Command{begin}
	for id := range 8 {
		list = append(list, api.Command{Kind: api.BeginQuery, ID: id}, api.Command{Kind: api.EndQuery, ID: id})
	}
	if at, code := checkList(t, append(list, end)); at != 18 || code != api.OK {
		t.Errorf("8 queries have error %d at %d", code, at)
	}
}

// TestP48_5All has all short lists of telling commands. Prefixes of valid lists that end outside of a pass are valid.
func TestP48_5All(t *testing.T) {
	alphabet := []api.Command{bind, begin, end, draw, query, other, endQuery, endOther, wall, uniforms, wrong}
	seen := map[api.Errno]int{}
	var each func(list []api.Command)
	each = func(list []api.Command) {
		at, code := checkList(t, list)
		seen[code]++
		if code == api.OK {
			for i := range list {
				if number(list[:i], api.BeginPass) > number(list[:i], api.EndPass) {
					continue
				}
				if n, code := command.Validate(list[:i]); n != i || code != api.OK {
					t.Fatalf("the first %d commands of %v have error %d at %d", i, list, code, n)
				}
			}
		}
		// Behind an error in the list everything has the same error.
		if len(list) < 5 && at == len(list) {
			for _, c := range alphabet {
				each(append(list[:len(list):len(list)], c))
			}
		}
	}
	each(nil)
	for _, code := range []api.Errno{api.OK, api.ErrState, api.ErrCommand, api.ErrQuery, api.ErrRange} {
		if seen[code] < 50 {
			t.Errorf("only %d lists have error %d", seen[code], code)
		}
	}
}

// TestP48_5Arbitrary has long lists, which are mostly right.
func TestP48_5Arbitrary(t *testing.T) {
	s := state(1)
	right := 0
	for range 4000 {
		var list []api.Command
		for range s.next(60) {
			c := valid()[s.next(30)]
			if s.next(2) == 0 {
				c = []api.Command{begin, end, draw, query, endQuery, bind, wall}[s.next(7)]
			}
			if expectedError(list, c) == api.OK || s.next(300) == 0 {
				list = append(list, c)
			}
		}
		for number(list, api.BeginPass) > number(list, api.EndPass) && s.next(4) > 0 {
			if id := active(list); id >= 0 {
				list = append(list, api.Command{Kind: api.EndQuery, ID: id})
			}
			list = append(list, end)
		}
		before := fmt.Sprint(list)
		if _, code := checkList(t, list); code == api.OK {
			right++
			for i := range list {
				if number(list[:i], api.BeginPass) == number(list[:i], api.EndPass) {
					checkList(t, list[:i])
				}
			}
		}
		if fmt.Sprint(list) != before {
			t.Fatal("the list was changed")
		}
	}
	if right < 1000 {
		t.Errorf("only %d lists are valid", right)
	}
}
