package tests

import (
	"math"
	"reflect"
	"slices"
	"testing"

	"loop.example/beat/impl"
)

// planOf makes a plan with three channels and a slice of 5.
func planOf(bodies ...[]impl.Step) impl.Plan {
	p := impl.Plan{Rooms: []int{0, 1, 10}, Slice: 5}
	for _, steps := range bodies {
		p.Bodies = append(p.Bodies, impl.Body{Steps: steps})
	}
	return p
}

func oneBody(steps ...impl.Step) impl.Plan { return planOf(steps) }

func says(n int) []impl.Step {
	return slices.Repeat([]impl.Step{{Op: impl.BSay}}, n)
}

// heads makes n heads, each in the block of the one before it, all ending at one place, with inner steps in the last.
func heads(n, inner int) []impl.Step {
	var steps []impl.Step
	for k := range n {
		op := impl.BIf
		if k%2 == 1 {
			op = impl.BLoop
		}
		steps = append(steps, impl.Step{Op: op, Size: n - k - 1 + inner})
	}
	return append(steps, says(inner)...)
}

func wantFault(t *testing.T, name string, p impl.Plan, want impl.Fault) {
	t.Helper()
	if got := impl.PlanOk(p); got != want {
		t.Errorf("%s: PlanOk is %v, not %v", name, got, want)
	}
}

// span is the range that a field of a step may have.
type span struct{ low, high int64 }

func (s span) has(n int64) bool { return s.low <= n && n <= s.high }

// fieldSpans is the table of the document: what A, B, N and Size of an Op may be. It is kept apart from the program's own form of it.
func fieldSpans(op int, p impl.Plan) (fields [4]span, known bool) {
	register := span{0, 3}
	channel := span{0, int64(len(p.Rooms)) - 1}
	body := span{0, int64(len(p.Bodies)) - 1}
	number := span{math.MinInt64, math.MaxInt64}
	count := span{0, math.MaxInt64}
	none := span{0, 0}
	rows := [...][4]span{
		1:  {register, none, number, none},
		2:  {register, register, number, none},
		3:  {register, none, none, none},
		4:  {register, none, none, none},
		5:  {register, none, none, none},
		6:  {none, none, none, none},
		7:  {register, body, none, none},
		8:  {register, none, none, none},
		9:  {register, channel, none, none},
		10: {register, channel, none, none},
		11: {register, channel, span{0, 1000000}, none},
		12: {register, channel, channel, none},
		13: {none, channel, none, none},
		14: {none, none, none, none},
		15: {register, none, none, count},
		16: {register, none, none, count},
	}
	if op < 1 || op > 16 {
		return fields, false
	}
	return rows[op], true
}

func plainStepOk(s impl.Step, p impl.Plan) bool {
	fields, known := fieldSpans(s.Op, p)
	return known && fields[0].has(int64(s.A)) && fields[1].has(int64(s.B)) && fields[2].has(s.N) && fields[3].has(int64(s.Size))
}

// plainBlockCode tells 5, 6 or 0 for a step, from the heads ahead of it, all of which are taken to be without fault.
func plainBlockCode(steps []impl.Step, s int) int {
	if steps[s].Op != impl.BLoop && steps[s].Op != impl.BIf {
		return 0
	}
	last, deep := len(steps)-1, 0
	for h := range s {
		if s <= h+steps[h].Size {
			last = h + steps[h].Size
			deep++
		}
	}
	if steps[s].Size > last-s {
		return 5
	}
	if deep >= 10 {
		return 6
	}
	return 0
}

// plainFault finds all faults of a plan whose bounds are good, and tells the first by the order of the document.
func plainFault(p impl.Plan) impl.Fault {
	for b, body := range p.Bodies {
		for s, step := range body.Steps {
			if !plainStepOk(step, p) {
				return impl.Fault{Code: 4, Body: b, Step: s}
			}
		}
	}
	for b, body := range p.Bodies {
		for s := range body.Steps {
			if code := plainBlockCode(body.Steps, s); code != 0 {
				return impl.Fault{Code: code, Body: b, Step: s}
			}
		}
	}
	return impl.Fault{}
}

// dice is a row of numbers that is the same in each run.
type dice struct{ state uint64 }

func (d *dice) below(n int) int {
	d.state = d.state*6364136223846793005 + 1442695040888963407
	return int((d.state >> 33) % uint64(n))
}

// withSpare copies a list into memory with places behind its end, so that a write there can be seen too.
func withSpare[T any](list []T) []T {
	return append(make([]T, 0, len(list)+3), list...)
}

func whole[T any](list []T) []T { return slices.Clone(list[:cap(list)]) }

func sparePlan(p impl.Plan) impl.Plan {
	out := impl.Plan{Bodies: withSpare(p.Bodies), Rooms: withSpare(p.Rooms), Slice: p.Slice}
	for b := range out.Bodies {
		out.Bodies[b].Steps = withSpare(out.Bodies[b].Steps)
	}
	return out
}

func wholePlan(p impl.Plan) impl.Plan {
	out := impl.Plan{Bodies: whole(p.Bodies), Rooms: whole(p.Rooms), Slice: p.Slice}
	for b := range out.Bodies {
		out.Bodies[b].Steps = whole(out.Bodies[b].Steps)
	}
	return out
}

func wantSamePlan(t *testing.T, now, before impl.Plan) {
	t.Helper()
	if !reflect.DeepEqual(wholePlan(now), before) {
		t.Errorf("the plan was written into: %v, was %v", now, before)
	}
}
