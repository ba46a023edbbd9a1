package tests

import (
	"fmt"
	"reflect"
	"strings"
	"testing"

	"loop.example/beat/impl"
)

type steps = []impl.Step

func set(a int, n int64) impl.Step           { return impl.Step{Op: impl.BSet, A: a, N: n} }
func add(a, b int, n int64) impl.Step        { return impl.Step{Op: impl.BAdd, A: a, B: b, N: n} }
func say(a int) impl.Step                    { return impl.Step{Op: impl.BSay, A: a} }
func now(a int) impl.Step                    { return impl.Step{Op: impl.BNow, A: a} }
func sleep(a int) impl.Step                  { return impl.Step{Op: impl.BSleep, A: a} }
func yield() impl.Step                       { return impl.Step{Op: impl.BYield} }
func spawn(a, body int) impl.Step            { return impl.Step{Op: impl.BSpawn, A: a, B: body} }
func wait(a int) impl.Step                   { return impl.Step{Op: impl.BWait, A: a} }
func send(a, c int) impl.Step                { return impl.Step{Op: impl.BSend, A: a, B: c} }
func take(a, c int) impl.Step                { return impl.Step{Op: impl.BTake, A: a, B: c} }
func takeFor(a, c int, long int64) impl.Step { return impl.Step{Op: impl.BFor, A: a, B: c, N: long} }
func pick(a, b int, n int64) impl.Step       { return impl.Step{Op: impl.BPick, A: a, B: b, N: n} }
func shut(c int) impl.Step                   { return impl.Step{Op: impl.BClose, B: c} }
func end() impl.Step                         { return impl.Step{Op: impl.BEnd} }
func loop(a, size int) impl.Step             { return impl.Step{Op: impl.BLoop, A: a, Size: size} }
func when(a, size int) impl.Step             { return impl.Step{Op: impl.BIf, A: a, Size: size} }

func rooms(r ...int) []int { return r }

func planWith(slice int, rooms []int, bodies ...steps) impl.Plan {
	p := planOf(bodies...)
	p.Rooms, p.Slice = rooms, slice
	return p
}

func feed(events ...impl.Event) impl.Input {
	return impl.Input{Feed: events, Ticks: 1000, Until: 100}
}

func event(time int64, c int, num int64) impl.Event {
	return impl.Event{Time: time, Chan: c, Num: num}
}

// told writes a report as a short text, in which each field of it can be seen:
// t1 a turn of task 1, s1=7 it says 7, e1 it ends, f1=4 it fails, @3 the time becomes 3, <9 the event 9 comes;
// then the time and the ticks, then the states. What is not as every record must be stands behind a !.
func told(r impl.Report) string {
	var b strings.Builder
	fmt.Fprintf(&b, "%d:", r.Code)
	last := int64(0)
	for _, rec := range r.Recs {
		b.WriteString(" " + toldRec(rec))
		if rec.Kind == impl.KTime {
			last = rec.Time
		}
		if rec.Time != last {
			fmt.Fprintf(&b, "!time %d", rec.Time)
		}
	}
	fmt.Fprintf(&b, " | %d %d |", r.Time, r.Ticks)
	for _, s := range r.States {
		fmt.Fprintf(&b, " %d", s)
	}
	return b.String()
}

func toldRec(rec impl.Rec) string {
	out, task, num := "", rec.Task, rec.Num
	switch rec.Kind {
	case impl.KTurn:
		out, task = fmt.Sprintf("t%d", task), -1
	case impl.KSay:
		out, task, num = fmt.Sprintf("s%d=%d", task, num), -1, 0
	case impl.KEnd:
		out, task = fmt.Sprintf("e%d", task), -1
	case impl.KFail:
		out, task, num = fmt.Sprintf("f%d=%d", task, num), -1, 0
	case impl.KTime:
		out = fmt.Sprintf("@%d", rec.Time)
	case impl.KFeed:
		out, num = fmt.Sprintf("<%d", num), 0
	default:
		out = fmt.Sprintf("!kind %d", rec.Kind)
	}
	if task != -1 {
		out += fmt.Sprintf("!task %d", task)
	}
	if num != 0 {
		out += fmt.Sprintf("!num %d", num)
	}
	return out
}

// runCase is a run and its report, or the text of its answer, worked out by hand from the document.
type runCase struct {
	name string
	p    impl.Plan
	in   impl.Input
	want string
}

func wantRuns(t *testing.T, cases []runCase) {
	t.Helper()
	for _, c := range cases {
		if f := impl.PlanOk(c.p); f.Code != 0 || !impl.InputOk(c.p, c.in) {
			t.Errorf("%s: the case itself is not valid: %v", c.name, f)
		}
		r := impl.RunPlan(c.p, c.in)
		if got := told(r); got != c.want {
			t.Errorf("%s:\n got %s\nwant %s", c.name, got, c.want)
		}
		wantPlain(t, c.name, c.p, c.in, r)
	}
}

// wantPlain holds a report against the plain form of the document.
func wantPlain(t *testing.T, name string, p impl.Plan, in impl.Input, r impl.Report) {
	t.Helper()
	want := plainRun(p, in)
	if !reflect.DeepEqual(r, want) {
		t.Errorf("%s: %v with %v:\n  got %s\nplain %s", name, p, in, told(r), told(want))
	}
}
