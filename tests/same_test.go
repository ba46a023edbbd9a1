package tests

import (
	"fmt"
	"math"
	"reflect"
	"runtime"
	"slices"
	"sync"
	"testing"

	"loop.example/beat/impl"
)

// call is one function of the document. Each takes what it needs of a plan, an input and a number.
type call struct {
	name string
	ask  func(p impl.Plan, in impl.Input, k int) any
}

var calls = []call{
	{"PlanOk", func(p impl.Plan, _ impl.Input, _ int) any { return impl.PlanOk(p) }},
	{"InputOk", func(p impl.Plan, in impl.Input, _ int) any { return impl.InputOk(p, in) }},
	{"RunPlan", func(p impl.Plan, in impl.Input, _ int) any { return impl.RunPlan(p, in) }},
	{"StuckAt", func(p impl.Plan, in impl.Input, _ int) any { return impl.StuckAt(p, in) }},
	{"RingAt", func(p impl.Plan, in impl.Input, _ int) any { return impl.RingAt(p, in) }},
	{"StandAt", func(p impl.Plan, in impl.Input, k int) any { return impl.StandAt(p, in, k) }},
	{"Answer", func(p impl.Plan, in impl.Input, _ int) any { return impl.Answer(p, in) }},
}

// asked is an argument for all calls. Its lists have places behind their ends, and share nothing.
type asked struct {
	p  impl.Plan
	in impl.Input
	k  int
}

// randomAsked is mostly valid, and asks for a record that is mostly there.
func randomAsked(d *dice) asked {
	p, in := randomStands(d)
	a := asked{p: sparePlan(p), in: in, k: d.below(40) - 1}
	a.in.Feed = withSpare(in.Feed)
	switch d.below(12) {
	case 0:
		a.p.Bodies[0].Steps = append(a.p.Bodies[0].Steps, badStep)
	case 1:
		a.in.Until = -1
	}
	return a
}

func (a asked) kept() asked {
	out := asked{p: wholePlan(a.p), in: a.in, k: a.k}
	out.in.Feed = whole(a.in.Feed)
	return out
}

// scribble writes over all lists of an answer, up to the end of their memory.
func scribble(v reflect.Value) {
	switch v.Kind() {
	case reflect.Slice:
		all := v.Slice(0, v.Cap())
		for k := range all.Len() {
			scribble(all.Index(k))
		}
	case reflect.Struct:
		for k := range v.NumField() {
			scribble(v.Field(k))
		}
	case reflect.Int, reflect.Int64:
		if v.CanSet() {
			v.SetInt(-77)
		}
	case reflect.Bool:
		if v.CanSet() {
			v.SetBool(!v.Bool())
		}
	}
}

// P12: of every function: nothing is written into an argument, behind the end of its lists neither; what is done to an answer
// changes no argument and no other answer; the same argument has the same answer.
func TestNothingIsWritten(t *testing.T) {
	d := &dice{state: 120}
	lists := map[string]int{}
	for n := range 1500 {
		a := randomAsked(d)
		before := a.kept()
		for _, c := range calls {
			first := c.ask(a.p, a.in, a.k)
			if !reflect.DeepEqual(a.kept(), before) {
				t.Fatalf("%d: %s has written into %v, was %v", n, c.name, a, before)
			}
			second := c.ask(a.p, a.in, a.k)
			if !reflect.DeepEqual(first, second) {
				t.Fatalf("%d: %s of %v: %v, then %v", n, c.name, a, first, second)
			}
			wantApart(t, c.name, first, second, a.p, a.in)
			lists[c.name] += len(memoriesOf(reflect.ValueOf(first)))
			scribble(reflect.ValueOf(first))
			if !reflect.DeepEqual(a.kept(), before) {
				t.Fatalf("%d: the answer of %s shares memory with %v", n, c.name, before)
			}
			if third := c.ask(a.p, a.in, a.k); !reflect.DeepEqual(third, second) {
				t.Fatalf("%d: %s of %v: %v, was %v", n, c.name, a, third, second)
			}
		}
		if t.Failed() {
			return
		}
	}
	for _, c := range []struct {
		name string
		min  int
	}{{"RunPlan", 1000}, {"StuckAt", 100}, {"RingAt", 50}, {"StandAt", 2000}} {
		if lists[c.name] < c.min {
			t.Errorf("the answers of %s had %d lists only", c.name, lists[c.name])
		}
	}
}

// P12: the lists of each answer are new, at every record of a run in which all of them are long.
func TestStandIsNewMemory(t *testing.T) {
	p := planWith(9, rooms(2, 0, 0), steps{spawn(0, 1), spawn(0, 1), spawn(0, 2), spawn(0, 2), spawn(0, 2), yield(), yield(), say(0)},
		steps{pick(0, 1, 2)}, steps{send(0, 0), send(0, 0), yield(), yield(), say(0)})
	in := feed(event(0, 0, 4), event(0, 0, 5))
	p, in.Feed = sparePlan(p), withSpare(in.Feed)
	var all []any
	_, want := plainStands(p, in)
	for k := range want {
		all = append(all, impl.StandAt(p, in, k))
	}
	wantApart(t, "all records", append(all, p, in)...)
	for _, s := range all {
		scribble(reflect.ValueOf(s))
	}
	for k := range want {
		if got := impl.StandAt(p, in, k); !sameStand(got, want[k]) {
			t.Errorf("record %d: %s, not %s", k, toldStand(got), toldStand(want[k]))
		}
	}
}

// P12: an answer hangs on its argument alone, whatever was asked before.
func TestSameInAnyOrder(t *testing.T) {
	d := &dice{state: 121}
	type one struct {
		call call
		asked
		answer any
	}
	var all []one
	for range 120 {
		a := randomAsked(d)
		for _, c := range calls {
			all = append(all, one{c, a, c.ask(a.p, a.in, a.k)})
		}
	}
	for _, at := range d.shuffled(len(all)) {
		o := all[at]
		if got := o.call.ask(o.p, o.in, o.k); !reflect.DeepEqual(got, o.answer) {
			t.Fatalf("%s of %v: %v, was %v", o.call.name, o.asked, got, o.answer)
		}
	}
}

// P12: nor on what lies behind the end of a list, nor on whether an empty one is nil.
func TestSameInOtherMemory(t *testing.T) {
	d := &dice{state: 122}
	for range 200 {
		a := randomAsked(d)
		tight := asked{p: impl.Plan{Slice: a.p.Slice, Rooms: slices.Clip(slices.Clone(a.p.Rooms))}, in: a.in, k: a.k}
		tight.in.Feed = append([]impl.Event{}, a.in.Feed...)
		for _, b := range a.p.Bodies {
			tight.p.Bodies = append(tight.p.Bodies, impl.Body{Steps: append(steps{}, b.Steps...)})
		}
		for _, c := range calls {
			if got, want := c.ask(tight.p, tight.in, tight.k), c.ask(a.p, a.in, a.k); !reflect.DeepEqual(got, want) {
				t.Fatalf("%s of %v: %v, was %v", c.name, a, got, want)
			}
		}
	}
}

// P12: calls at one time, with one argument, do not see each other.
func TestSameAtOneTime(t *testing.T) {
	d := &dice{state: 123}
	for range 30 {
		a := randomAsked(d)
		var want []any
		for _, c := range calls {
			want = append(want, c.ask(a.p, a.in, a.k))
		}
		got := make([]any, 4*len(calls))
		var all sync.WaitGroup
		for k := range got {
			all.Go(func() { got[k] = calls[k%len(calls)].ask(a.p, a.in, a.k) })
		}
		all.Wait()
		for k := range got {
			if !reflect.DeepEqual(got[k], want[k%len(calls)]) {
				t.Fatalf("%s of %v: %v, not %v", calls[k%len(calls)].name, a, got[k], want[k%len(calls)])
			}
		}
	}
}

var edges = []int{
	math.MinInt, math.MinInt + 1, -1 << 32, math.MinInt32, -2, -1, 0, 1, 2, 3, 4, 5, 9, 10, 11, 16, 17, 20, 21,
	99, 100, 101, 200, 201, 5000, 5001, 1000000, 1000001, math.MaxInt32, 1 << 32, 1<<32 + 1, math.MaxInt - 1, math.MaxInt,
}

func (d *dice) edge() int { return edges[d.below(len(edges))] }

// spoiled is a run of which a few fields, anywhere in it, have become something at an edge.
func spoiled(d *dice) asked {
	p, in := randomStands(d)
	a := asked{p: sparePlan(p), in: in, k: d.edge()}
	a.in.Feed = withSpare(in.Feed)
	for range 1 + d.below(2) {
		a.spoil(d)
	}
	return a
}

func (a *asked) spoil(d *dice) {
	body := &a.p.Bodies[d.below(len(a.p.Bodies))]
	head := slices.IndexFunc(body.Steps, func(s impl.Step) bool { return s.Op == impl.BLoop || s.Op == impl.BIf })
	switch what := d.below(18); {
	case what < 10 && len(body.Steps) > 0:
		s := &body.Steps[d.below(len(body.Steps))]
		switch d.below(5) {
		case 0:
			s.Op = d.edge()
		case 1:
			s.A = d.edge()
		case 2:
			s.B = d.edge()
		case 3:
			s.N = int64(d.edge())
		case 4:
			s.Size = d.edge()
		}
	case what == 10:
		a.p.Rooms[d.below(len(a.p.Rooms))] = d.edge()
	case what == 11:
		a.p.Slice = d.edge()
	case what == 12:
		a.in.Ticks = d.edge()
	case what == 13:
		a.in.Until = int64(d.edge())
	case what < 16 && head >= 0:
		body.Steps[head].Size = d.edge()
	case len(a.in.Feed) > 0:
		e := &a.in.Feed[d.below(len(a.in.Feed))]
		switch d.below(3) {
		case 0:
			e.Time = int64(d.edge())
		case 1:
			e.Chan = d.edge()
		case 2:
			e.Num = int64(d.edge())
		}
	}
}

// P1, P2, P8 to P12: every function answers at every argument, and never panics: no run where something is not valid, else the right one.
func TestSpoiledArguments(t *testing.T) {
	d := &dice{state: 124}
	faults, good, records := map[int]int{}, 0, 0
	for n := range 6000 {
		a := spoiled(d)
		name := fmt.Sprintf("argument %d", n)
		fault, ok := impl.PlanOk(a.p), impl.InputOk(a.p, a.in)
		faults[fault.Code]++
		if fault.Code != 0 || !ok {
			wantNoPlan(t, name, a)
			continue
		}
		good++
		wantPlain(t, name, a.p, a.in, impl.RunPlan(a.p, a.in))
		wantPlainStuck(t, name, a.p, a.in)
		wantPlainAnswer(t, name, a.p, a.in)
		recs, stands := plainStands(a.p, a.in)
		for _, k := range []int{a.k, 0, d.below(len(recs)), len(recs) - 1, len(recs)} {
			want := impl.Stand{}
			if k >= 0 && k < len(stands) {
				want = stands[k]
				records++
			}
			if got := impl.StandAt(a.p, a.in, k); !sameStand(got, want) {
				t.Errorf("%s: %v: record %d\n  got %s\nplain %s", name, a, k, toldStand(got), toldStand(want))
			}
		}
		if t.Failed() {
			return
		}
	}
	for _, code := range []int{0, 2, 4, 5} {
		if faults[code] < 50 {
			t.Errorf("fault %d was met %d times only", code, faults[code])
		}
	}
	if good < 500 || records < 1000 {
		t.Errorf("%d were valid, with %d records", good, records)
	}
}

func wantNoPlan(t *testing.T, name string, a asked) {
	t.Helper()
	if r := impl.RunPlan(a.p, a.in); !reflect.DeepEqual(r, impl.Report{Code: 3}) {
		t.Errorf("%s: %v: RunPlan %v", name, a, r)
	}
	if got := impl.StuckAt(a.p, a.in); len(got) != 0 {
		t.Errorf("%s: %v: StuckAt %v", name, a, got)
	}
	if got := impl.RingAt(a.p, a.in); len(got) != 0 {
		t.Errorf("%s: %v: RingAt %v", name, a, got)
	}
	for _, k := range []int{a.k, -1, 0, 1} {
		if got := toldStand(impl.StandAt(a.p, a.in, k)); got != "none" {
			t.Errorf("%s: %v: StandAt %d: %s", name, a, k, got)
		}
	}
	if got := impl.Answer(a.p, a.in); got != "no plan\n" {
		t.Errorf("%s: %v: Answer %q", name, a, got)
	}
}

// P12: no function leaves a goroutine behind, however the run ends.
func TestNoGoroutineIsLeft(t *testing.T) {
	d := &dice{state: 125}
	for range 300 {
		a := randomAsked(d)
		for _, c := range calls {
			c.ask(a.p, a.in, a.k)
		}
	}
	wantNoGoroutine(t)
	// With one processor nobody runs between the answer and the look, but the last ones may have been stopped on their very last way.
	defer runtime.GOMAXPROCS(runtime.GOMAXPROCS(1))
	p := planWith(100, rooms(0), append(slices.Repeat(steps{spawn(0, 1)}, 49), take(0, 0)), steps{take(0, 0)})
	for _, c := range calls {
		for range 20 {
			before := runtime.NumGoroutine()
			c.ask(p, feed(), 3)
			if left := runtime.NumGoroutine() - before; left > 3 {
				t.Fatalf("%s: %d goroutines are left when the call answers", c.name, left)
			}
		}
	}
}
