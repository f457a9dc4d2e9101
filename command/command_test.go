package command_test

import (
	"fmt"
	"math"
	"reflect"
	"slices"
	"testing"

	"frustum/api"
	"frustum/command"
	"frustum/sampler"
)

const (
	one      = api.One
	largest  = math.MaxInt
	smallest = math.MinInt
)

// state makes arbitrary numbers.
type state uint64

func (s *state) next(beyond int) int {
	*s = *s*6364136223846793005 + 1442695040888963407
	return int(*s>>33) % beyond
}

// numbers returns numbers among which all limits are, with those next to them.
func numbers() []int {
	return []int{-1, 0, 1, 2, 3, 4, 5, 6, 7, 8, 9, 63, 64, 65, 255, 256, 1024, 1025, one - 1, one, one + 1, 8 * one, math.MaxInt32, math.MaxInt32 + 1, math.MinInt32, math.MinInt32 - 1, 1 << 32, 1<<32 + 1, largest, smallest}
}

// smooth is a valid sampler.
var smooth = api.Sampler{AddressU: api.Repeat, AddressV: api.Mirror, Magnify: api.Linear, Minify: api.Nearest, Mipmap: api.Linear, Border: api.Vec4{X: one}, LODBias: -5, MinLOD: 3, MaxLOD: 8 * one}

// valid returns a command of each kind, in the order of the kinds, and then other valid ones.
func valid() []api.Command {
	return []api.Command{
		{Kind: api.BindPipeline, ID: 3}, {Kind: api.BindVertex, Slot: 2, ID: 4}, {Kind: api.BindIndex, ID: 5, Index: api.Index16}, {Kind: api.BindTexture, Slot: 1, ID: 6, Sampler: smooth}, {Kind: api.BindBuffer, Slot: 3, ID: 7}, {Kind: api.SetUniforms, First: 5, Values: []int{1, -2, 3}}, {Kind: api.BeginPass, ID: 2, Clear: api.Vec4{X: 1, Y: 2, Z: 3, W: one}, ClearDepth: 4, ClearStencil: 5}, {Kind: api.EndPass}, {Kind: api.Draw, First: 9, Count: 8}, {Kind: api.Barrier, ID: 1, From: api.ShaderRead, To: api.CopyTarget}, {Kind: api.BeginQuery, ID: 2}, {Kind: api.EndQuery, ID: 2}, {Kind: api.CopyToImage, ID: 3, Slot: 6}, {Kind: api.Resolve, ID: 7, Slot: 1},
		{Kind: api.BeginPass, ID: 7, LoadContents: true}, {Kind: api.BeginPass}, {Kind: api.BeginPass, Clear: api.Vec4{X: one, Y: one, Z: one, W: one}, ClearDepth: one, ClearStencil: 255}, {Kind: api.SetUniforms, Values: make([]int, 64)}, {Kind: api.SetUniforms, First: 63, Values: []int{math.MinInt32}}, {Kind: api.SetUniforms, First: 62, Values: []int{math.MaxInt32, 0}}, {Kind: api.Draw, First: 65536, Count: 1024}, {Kind: api.Draw, Count: 1}, {Kind: api.BindIndex, Index: api.NoIndex}, {Kind: api.BindIndex, ID: 7, Index: api.Index32}, {Kind: api.Barrier, ID: 7, From: api.Undefined, To: api.ShaderRead}, {Kind: api.Barrier, From: api.CopyTarget, To: api.RenderTarget}, {Kind: api.CopyToImage, ID: 7, Slot: 7}, {Kind: api.Resolve, Slot: 7}, {Kind: api.BindVertex}, {Kind: api.BindVertex, Slot: 3, ID: 7},
	}
}

// between returns a rule for a field that is a number.
func between(low, high int) func(c api.Command, field reflect.Value) bool {
	return func(c api.Command, field reflect.Value) bool {
		return int(field.Int()) >= low && int(field.Int()) <= high
	}
}

type rule = func(c api.Command, field reflect.Value) bool

// rules returns the fields that a kind uses, with what they can be.
func rules(c api.Command) map[string]rule {
	slot, id, part := between(0, 3), between(0, 7), between(0, one)
	valid := func(c api.Command, field reflect.Value) bool { return sampler.Valid(c.Sampler) }
	clear := func(c api.Command, field reflect.Value) bool {
		for i := range 4 {
			if !part(c, field.Field(i)) {
				return false
			}
		}
		return true
	}
	values := func(c api.Command, field reflect.Value) bool {
		for _, x := range c.Values {
			if int(int32(x)) != x {
				return false
			}
		}
		return len(c.Values) > 0 && len(c.Values) <= 64-c.First
	}
	switch c.Kind {
	case 1, 11, 12:
		return map[string]rule{"ID": id}
	case 2, 5:
		return map[string]rule{"Slot": slot, "ID": id}
	case 3:
		return map[string]rule{"ID": id, "Index": between(1, 4)}
	case 4:
		return map[string]rule{"Slot": slot, "ID": id, "Sampler": valid}
	case 6:
		return map[string]rule{"First": between(0, 63), "Values": values}
	case 7:
		if c.LoadContents {
			return map[string]rule{"ID": id, "LoadContents": nil}
		}
		return map[string]rule{"ID": id, "LoadContents": nil, "Clear": clear, "ClearDepth": part, "ClearStencil": between(0, 255)}
	case 9:
		return map[string]rule{"First": between(0, 65536), "Count": between(1, 1024)}
	case 10:
		return map[string]rule{"ID": id, "From": between(1, 5), "To": between(2, 5)}
	case 13, 14:
		return map[string]rule{"Slot": id, "ID": id}
	}
	return nil
}

// expectedCheck is a second reading of P48.2, field by field.
func expectedCheck(c api.Command) api.Errno {
	if c.Kind < 1 || c.Kind > 14 {
		return api.ErrKind
	}
	used, v := rules(c), reflect.ValueOf(c)
	result := api.OK
	for i := range v.NumField() {
		name, field := v.Type().Field(i).Name, v.Field(i)
		holds, found := used[name]
		empty := field.IsZero() || field.Kind() == reflect.Slice && field.Len() == 0
		switch {
		case found && holds != nil && !holds(c, field):
			return api.ErrRange
		case !found && name != "Kind" && !empty:
			result = api.ErrArgument
		}
	}
	return result
}

// check compares Check with its second reading.
func check(t *testing.T, c api.Command) api.Errno {
	t.Helper()
	before, want := fmt.Sprint(c), expectedCheck(c)
	if got := command.Check(c); got != want || fmt.Sprint(c) != before {
		t.Fatalf("%+v has error %d, want %d", c, got, want)
	}
	return want
}

// ints returns all fields that are numbers, in any depth.
func ints(v reflect.Value) []reflect.Value {
	var all []reflect.Value
	switch v.Kind() {
	case reflect.Int:
		return []reflect.Value{v}
	case reflect.Struct:
		for i := range v.NumField() {
			all = append(all, ints(v.Field(i))...)
		}
	case reflect.Slice:
		for i := range v.Len() {
			all = append(all, ints(v.Index(i))...)
		}
	}
	return all
}

// copied returns a copy of a command.
func copied(c api.Command) api.Command {
	c.Values = append([]int{}, c.Values...)
	return c
}

func TestP48_1Name(t *testing.T) {
	for i, want := range []string{"?", "bind-pipeline", "bind-vertex", "bind-index", "bind-texture", "bind-buffer", "set-uniforms", "begin-pass", "end-pass", "draw", "barrier", "begin-query", "end-query", "copy-to-image", "resolve", "?", "?"} {
		if got := command.Name(api.CommandKind(i)); got != want {
			t.Errorf("the name of %d is %q, want %q", i, got, want)
		}
	}
	for _, k := range []api.CommandKind{-1, 100, 1 << 32, 1<<32 + 1, largest, smallest} {
		if got := command.Name(k); got != "?" {
			t.Errorf("the name of %d is %q", k, got)
		}
	}
}

// TestP48_1Equal changes each field of commands alone.
func TestP48_1Equal(t *testing.T) {
	for _, c := range append(valid(), api.Command{}) {
		for i := range ints(reflect.ValueOf(c)) {
			for _, by := range []int64{1, -1, 1 << 32, math.MinInt64} {
				d := copied(c)
				if !command.Equal(c, d) || !command.Equal(d, c) {
					t.Fatalf("%+v is not equal to its copy", c)
				}
				field := ints(reflect.ValueOf(&d).Elem())[i]
				field.SetInt(field.Int() + by)
				before := fmt.Sprint(c, d)
				if command.Equal(c, d) || command.Equal(d, c) || fmt.Sprint(c, d) != before {
					t.Errorf("%+v and %+v are equal", c, d)
				}
			}
		}
		for _, change := range []func(c *api.Command){func(c *api.Command) { c.LoadContents = !c.LoadContents }, func(c *api.Command) { c.Values = append(c.Values, 0) }, func(c *api.Command) { c.Values = append([]int{7}, c.Values...) }} {
			d := copied(c)
			change(&d)
			if command.Equal(c, d) || command.Equal(d, c) {
				t.Errorf("%+v and %+v are equal", c, d)
			}
		}
	}
	if !command.Equal(api.Command{}, api.Command{Values: []int{}}) {
		t.Error("nil and empty values are not equal")
	}
}

func TestP48_1Clone(t *testing.T) {
	for _, c := range append(valid(), api.Command{}, api.Command{Kind: 99, Values: []int{1, 2}, Index: -5}) {
		before := fmt.Sprint(c)
		first, second := command.Clone(c), command.Clone(c)
		if fmt.Sprint(first) != before || !command.Equal(first, c) {
			t.Errorf("the clone of %+v is %+v", c, first)
		}
		for i := range first.Values {
			first.Values[i] += 5
		}
		if fmt.Sprint(c) != before || fmt.Sprint(second) != before {
			t.Errorf("a clone of %+v shares its memory", c)
		}
	}
}

func TestP48_2Valid(t *testing.T) {
	for i, c := range valid() {
		if got := check(t, c); got != api.OK {
			t.Errorf("%+v has error %d", c, got)
		}
		if i < 14 && c.Kind != api.CommandKind(i+1) {
			t.Errorf("the test is wrong: %+v", c)
		}
	}
	c := api.Command{Kind: api.EndPass, Values: []int{}}
	if got := check(t, c); got != api.OK {
		t.Errorf("%+v has error %d", c, got)
	}
}

// TestP48_2Fields sets each field of each kind to telling numbers, alone and in pairs.
func TestP48_2Fields(t *testing.T) {
	seen := map[api.Errno]int{}
	for _, c := range valid() {
		for kind := -1; kind <= 16; kind++ {
			d := copied(c)
			d.Kind = api.CommandKind(kind)
			seen[check(t, d)]++
		}
		count := len(ints(reflect.ValueOf(c)))
		for i := range min(count, 40) {
			for _, x := range numbers() {
				d := copied(c)
				ints(reflect.ValueOf(&d).Elem())[i].SetInt(int64(x))
				seen[check(t, d)]++
				d.LoadContents = !d.LoadContents
				seen[check(t, d)]++
				d.Values = append(d.Values, x)
				seen[check(t, d)]++
				d.Clear.Y = 5
				seen[check(t, d)]++
			}
		}
	}
	for _, code := range []api.Errno{api.OK, api.ErrKind, api.ErrRange, api.ErrArgument} {
		if seen[code] < 1000 {
			t.Errorf("only %d commands have error %d", seen[code], code)
		}
	}
}

func TestP48_2Examples(t *testing.T) {
	for _, c := range []struct {
		command api.Command
		want    api.Errno
	}{
		{api.Command{}, api.ErrKind}, {api.Command{Kind: 15, ID: 99}, api.ErrKind}, {api.Command{Kind: -1}, api.ErrKind}, {api.Command{Kind: largest, Slot: 9}, api.ErrKind},
		{api.Command{Kind: api.BindPipeline, ID: 8, Slot: 1}, api.ErrRange}, {api.Command{Kind: api.BindPipeline, Slot: 1}, api.ErrArgument}, {api.Command{Kind: api.BindVertex, Slot: 4}, api.ErrRange}, {api.Command{Kind: api.BindIndex}, api.ErrRange}, {api.Command{Kind: api.BindTexture}, api.ErrRange}, {api.Command{Kind: api.BindTexture, Slot: 4, Sampler: smooth}, api.ErrRange}, {api.Command{Kind: api.BindBuffer, Slot: 3, ID: 8}, api.ErrRange},
		{api.Command{Kind: api.SetUniforms}, api.ErrRange}, {api.Command{Kind: api.SetUniforms, First: 63, Values: []int{1, 2}}, api.ErrRange}, {api.Command{Kind: api.SetUniforms, Values: make([]int, 65)}, api.ErrRange}, {api.Command{Kind: api.SetUniforms, First: -1, Values: []int{1}}, api.ErrRange}, {api.Command{Kind: api.SetUniforms, First: 64, Values: nil}, api.ErrRange}, {api.Command{Kind: api.SetUniforms, First: smallest, Values: []int{1}}, api.ErrRange}, {api.Command{Kind: api.SetUniforms, First: largest, Values: []int{1}}, api.ErrRange}, {api.Command{Kind: api.SetUniforms, Values: []int{0, 1 << 31}}, api.ErrRange}, {api.Command{Kind: api.SetUniforms, Values: []int{1}, Count: 1}, api.ErrArgument},
		{api.Command{Kind: api.BeginPass, LoadContents: true, Clear: api.Vec4{X: 1}}, api.ErrArgument}, {api.Command{Kind: api.BeginPass, LoadContents: true, Clear: api.Vec4{X: -1}}, api.ErrArgument}, {api.Command{Kind: api.BeginPass, LoadContents: true, ClearDepth: one + 1}, api.ErrArgument}, {api.Command{Kind: api.BeginPass, LoadContents: true, ClearStencil: 256}, api.ErrArgument}, {api.Command{Kind: api.BeginPass, ID: 8, LoadContents: true, ClearStencil: 256}, api.ErrRange}, {api.Command{Kind: api.BeginPass, ClearStencil: 256}, api.ErrRange}, {api.Command{Kind: api.BeginPass, Clear: api.Vec4{W: one + 1}}, api.ErrRange}, {api.Command{Kind: api.BeginPass, Clear: api.Vec4{Z: -1}}, api.ErrRange}, {api.Command{Kind: api.BeginPass, ClearDepth: -1, Slot: 1}, api.ErrRange},
		{api.Command{Kind: api.EndPass, ID: 1}, api.ErrArgument}, {api.Command{Kind: api.EndPass, LoadContents: true}, api.ErrArgument}, {api.Command{Kind: api.EndPass, Values: []int{0}}, api.ErrArgument}, {api.Command{Kind: api.EndPass, Sampler: api.Sampler{MaxLOD: 1}}, api.ErrArgument}, {api.Command{Kind: api.Draw}, api.ErrRange}, {api.Command{Kind: api.Draw, Count: 1025}, api.ErrRange}, {api.Command{Kind: api.Draw, First: 65537, Count: 1}, api.ErrRange}, {api.Command{Kind: api.Draw, First: -1, Count: 1}, api.ErrRange}, {api.Command{Kind: api.Draw, Count: 1, Index: api.NoIndex}, api.ErrArgument},
		{api.Command{Kind: api.Barrier, From: api.Undefined, To: api.Undefined}, api.ErrRange}, {api.Command{Kind: api.Barrier, To: api.ShaderRead}, api.ErrRange}, {api.Command{Kind: api.Barrier, From: 6, To: api.ShaderRead}, api.ErrRange}, {api.Command{Kind: api.Barrier, From: 1, To: 6}, api.ErrRange}, {api.Command{Kind: api.Barrier, From: 1, To: 2, Slot: 1}, api.ErrArgument}, {api.Command{Kind: api.BeginQuery, ID: -1}, api.ErrRange}, {api.Command{Kind: api.EndQuery, ID: 8}, api.ErrRange}, {api.Command{Kind: api.CopyToImage, Slot: 8}, api.ErrRange}, {api.Command{Kind: api.CopyToImage, ID: 8}, api.ErrRange}, {api.Command{Kind: api.Resolve, Slot: -1}, api.ErrRange}, {api.Command{Kind: api.Resolve, To: 1}, api.ErrArgument},
	} {
		if got := check(t, c.command); got != c.want {
			t.Errorf("%+v has error %d, want %d", c.command, got, c.want)
		}
	}
}

func TestP48_4Draws(t *testing.T) {
	draw := api.Command{Kind: api.Draw}
	for _, c := range []struct {
		list []api.Command
		want int
	}{{nil, 0}, {[]api.Command{}, 0}, {[]api.Command{draw}, 1}, {[]api.Command{{}, draw, {Kind: api.EndPass}, draw, {Kind: 99}}, 2}, {valid(), 3}, {slices.Repeat([]api.Command{draw}, 1000), 1000}} {
		if got := command.Draws(c.list); got != c.want {
			t.Errorf("%v has %d draws", c.list, got)
		}
	}
}
