package tests

import (
	"math"
	"reflect"
	"slices"
	"testing"

	"loop.example/beat/impl"
)

func feedOf(events ...impl.Event) impl.Input { return impl.Input{Feed: events} }

func wantInput(t *testing.T, name string, p impl.Plan, in impl.Input, want bool) {
	t.Helper()
	if got := impl.InputOk(p, in); got != want {
		t.Errorf("%s: InputOk is %v, not %v", name, got, want)
	}
}

// P1: inputs that are valid, each limit met exactly.
func TestInputValid(t *testing.T) {
	p := oneBody()
	for _, c := range []struct {
		name string
		in   impl.Input
	}{
		{"the zero value", impl.Input{}},
		{"an empty feed", impl.Input{Feed: []impl.Event{}}},
		{"all bounds", impl.Input{Ticks: 5000, Until: 1000000}},
		{"100 events at time 0", feedOf(make([]impl.Event, 100)...)},
		{"100 events at the last time", feedOf(slices.Repeat([]impl.Event{{Time: 1000000, Chan: 2}}, 100)...)},
		{"events of the same time", feedOf(impl.Event{Time: 3, Chan: 2}, impl.Event{Time: 3}, impl.Event{Time: 3, Chan: 1})},
		{"events that ascend", feedOf(impl.Event{}, impl.Event{Time: 1}, impl.Event{Time: 1}, impl.Event{Time: 1000000})},
		{"events behind Until", impl.Input{Feed: []impl.Event{{Time: 9}}, Until: 8}},
		{"any number", feedOf(impl.Event{Num: math.MinInt64}, impl.Event{Num: math.MaxInt64})},
	} {
		wantInput(t, c.name, p, c.in, true)
	}
}

// P1: inputs that are not valid, each limit passed by one and by much.
func TestInputWrong(t *testing.T) {
	p := oneBody()
	for _, c := range []struct {
		name string
		in   impl.Input
	}{
		{"101 events", feedOf(make([]impl.Event, 101)...)},
		{"100000 events", feedOf(make([]impl.Event, 100000)...)},
		{"first event ahead of 0", feedOf(impl.Event{Time: -1})},
		{"first event at the least time", feedOf(impl.Event{Time: math.MinInt64})},
		{"out of order by one", feedOf(impl.Event{Time: 5}, impl.Event{Time: 4})},
		{"the last out of order", feedOf(impl.Event{Time: 1}, impl.Event{Time: 7}, impl.Event{Time: 6})},
		{"below the one before, above the first", feedOf(impl.Event{Time: 1}, impl.Event{Time: 9}, impl.Event{Time: 2})},
		{"too late by one", feedOf(impl.Event{Time: 1000001})},
		{"the last too late", feedOf(impl.Event{}, impl.Event{Time: 1000001})},
		{"at the greatest time", feedOf(impl.Event{Time: math.MaxInt64})},
		{"channel 3 of 3", feedOf(impl.Event{Chan: 3})},
		{"channel -1", feedOf(impl.Event{}, impl.Event{Chan: -1})},
		{"the greatest channel", feedOf(impl.Event{Chan: math.MaxInt})},
		{"the least channel", feedOf(impl.Event{Chan: math.MinInt})},
		{"5001 ticks", impl.Input{Ticks: 5001}},
		{"-1 ticks", impl.Input{Ticks: -1}},
		{"the most ticks", impl.Input{Ticks: math.MaxInt}},
		{"the least ticks", impl.Input{Ticks: math.MinInt}},
		{"until one too late", impl.Input{Until: 1000001}},
		{"until -1", impl.Input{Until: -1}},
		{"until the greatest time", impl.Input{Until: math.MaxInt64}},
		{"until the least time", impl.Input{Until: math.MinInt64}},
	} {
		wantInput(t, c.name, p, c.in, false)
	}
}

// P1: of the plan the input asks for its channels alone.
func TestInputChannelsOfThePlan(t *testing.T) {
	for _, n := range []int{0, 1, 10, 11} {
		p := impl.Plan{Rooms: make([]int, n)}
		for c := -1; c <= 12; c++ {
			wantInput(t, "a channel", p, feedOf(impl.Event{Chan: c}), c >= 0 && c < n)
		}
		wantInput(t, "no events", p, impl.Input{}, true)
	}
	wantInput(t, "a room that is not valid", impl.Plan{Rooms: []int{-1}}, feedOf(impl.Event{}), true)
}

// P1: nothing is written into an argument, and the answer stays.
func TestInputIsNotWritten(t *testing.T) {
	p := sparePlan(oneBody(says(2)...))
	for _, feed := range [][]impl.Event{
		nil,
		{{Time: 1, Chan: 2, Num: 3}, {Time: 1, Chan: 0, Num: 4}},
		{{Time: 2}, {Time: 1}},
	} {
		in := impl.Input{Feed: withSpare(feed), Ticks: 5, Until: 6}
		plan, events := wholePlan(p), whole(in.Feed)
		first := impl.InputOk(p, in)
		if impl.InputOk(p, in) != first {
			t.Errorf("%v: another answer at the second time", feed)
		}
		wantSamePlan(t, p, plan)
		if !reflect.DeepEqual(whole(in.Feed), events) {
			t.Errorf("the feed was written into: %v, was %v", in.Feed, events)
		}
	}
}
