package tests

import (
	"fmt"
	"math"
	"slices"
	"testing"

	"loop.example/beat/impl"
)

var badStep = impl.Step{Op: impl.BSay, A: 4}

// P1: each limit met exactly.
func TestPlanLimitsMet(t *testing.T) {
	tenRooms := slices.Repeat([]int{10}, 10)
	for _, c := range []struct {
		name string
		p    impl.Plan
	}{
		{"one body without steps", oneBody()},
		{"one step", oneBody(impl.Step{Op: impl.BEnd})},
		{"20 bodies", impl.Plan{Bodies: make([]impl.Body, 20), Slice: 1}},
		{"no channels", impl.Plan{Bodies: make([]impl.Body, 1), Slice: 1}},
		{"10 channels with room 10", impl.Plan{Bodies: make([]impl.Body, 1), Rooms: tenRooms, Slice: 1}},
		{"rooms 0", impl.Plan{Bodies: make([]impl.Body, 1), Rooms: make([]int, 10), Slice: 1}},
		{"slice 1", impl.Plan{Bodies: make([]impl.Body, 1), Slice: 1}},
		{"slice 100", impl.Plan{Bodies: make([]impl.Body, 1), Slice: 100}},
		{"200 steps", oneBody(says(200)...)},
		{"20 bodies of 200 steps", planOf(slices.Repeat([][]impl.Step{says(200)}, 20)...)},
		{"channel 9 of 10", impl.Plan{Bodies: []impl.Body{{Steps: []impl.Step{{Op: impl.BPick, B: 9, N: 9}}}}, Rooms: tenRooms, Slice: 1}},
	} {
		wantFault(t, c.name, c.p, impl.Fault{})
	}
}

// P1: faults 1, 2 and 3: limits passed by one, and by much.
func TestPlanLimitsPassed(t *testing.T) {
	body := make([]impl.Body, 1)
	for _, c := range []struct {
		name string
		p    impl.Plan
		want impl.Fault
	}{
		{"the zero value", impl.Plan{}, impl.Fault{Code: 1}},
		{"empty bodies", impl.Plan{Bodies: []impl.Body{}, Slice: 1}, impl.Fault{Code: 1}},
		{"21 bodies", impl.Plan{Bodies: make([]impl.Body, 21), Slice: 1}, impl.Fault{Code: 1}},
		{"100000 bodies", impl.Plan{Bodies: make([]impl.Body, 100000), Slice: 1}, impl.Fault{Code: 1}},
		{"11 channels", impl.Plan{Bodies: body, Rooms: make([]int, 11), Slice: 1}, impl.Fault{Code: 2}},
		{"room 11", impl.Plan{Bodies: body, Rooms: []int{11}, Slice: 1}, impl.Fault{Code: 2}},
		{"room 11 at the end", impl.Plan{Bodies: body, Rooms: []int{0, 10, 11}, Slice: 1}, impl.Fault{Code: 2}},
		{"room -1", impl.Plan{Bodies: body, Rooms: []int{0, -1, 0}, Slice: 1}, impl.Fault{Code: 2}},
		{"greatest room", impl.Plan{Bodies: body, Rooms: []int{math.MaxInt}, Slice: 1}, impl.Fault{Code: 2}},
		{"least room", impl.Plan{Bodies: body, Rooms: []int{math.MinInt}, Slice: 1}, impl.Fault{Code: 2}},
		{"slice 0", impl.Plan{Bodies: body}, impl.Fault{Code: 2}},
		{"slice 101", impl.Plan{Bodies: body, Slice: 101}, impl.Fault{Code: 2}},
		{"slice -1", impl.Plan{Bodies: body, Slice: -1}, impl.Fault{Code: 2}},
		{"greatest slice", impl.Plan{Bodies: body, Slice: math.MaxInt}, impl.Fault{Code: 2}},
		{"least slice", impl.Plan{Bodies: body, Slice: math.MinInt}, impl.Fault{Code: 2}},
		{"201 steps", oneBody(says(201)...), impl.Fault{Code: 3}},
		{"201 steps in body 1 and 2", planOf(says(200), says(201), says(300)), impl.Fault{Code: 3, Body: 1}},
		{"201 steps in body 19", planOf(append(make([][]impl.Step, 19), says(201))...), impl.Fault{Code: 3, Body: 19}},
	} {
		wantFault(t, c.name, c.p, c.want)
	}
}

// P1: which fault is told when there are several.
func TestPlanFirstFault(t *testing.T) {
	loose := impl.Step{Op: impl.BIf, Size: 9}
	tooDeep := heads(11, 0)
	for _, c := range []struct {
		name string
		p    impl.Plan
		want impl.Fault
	}{
		{"1 ahead of 2", impl.Plan{Rooms: []int{-1}}, impl.Fault{Code: 1}},
		{"1 ahead of 3", planOf(slices.Repeat([][]impl.Step{says(201)}, 21)...), impl.Fault{Code: 1}},
		{"2 ahead of 3", impl.Plan{Bodies: []impl.Body{{Steps: says(201)}}}, impl.Fault{Code: 2}},
		{"2 ahead of 4", impl.Plan{Bodies: []impl.Body{{Steps: []impl.Step{badStep}}}, Slice: 101}, impl.Fault{Code: 2}},
		{"3 in a later body ahead of 4", planOf([]impl.Step{badStep}, says(201)), impl.Fault{Code: 3, Body: 1}},
		{"3 in a later body ahead of 5", planOf([]impl.Step{loose}, says(201)), impl.Fault{Code: 3, Body: 1}},
		{"3 ahead of 4 in one body", planOf(nil, append(says(200), badStep)), impl.Fault{Code: 3, Body: 1}},
		{"4 in a later body ahead of 5", planOf([]impl.Step{loose}, []impl.Step{{Op: impl.BEnd}, badStep}), impl.Fault{Code: 4, Body: 1, Step: 1}},
		{"4 in a later body ahead of 6", planOf(tooDeep, nil, []impl.Step{badStep}), impl.Fault{Code: 4, Body: 2}},
		{"4 at a later step ahead of 5", oneBody(loose, badStep), impl.Fault{Code: 4, Step: 1}},
		{"4 at a later step ahead of 6", oneBody(append(heads(11, 0), badStep)...), impl.Fault{Code: 4, Step: 11}},
		{"4 at the first step", oneBody(impl.Step{Op: impl.BEnd}, badStep, badStep), impl.Fault{Code: 4, Step: 1}},
		{"4 in the first body", planOf(nil, []impl.Step{{Op: impl.BEnd}, badStep}, []impl.Step{badStep}), impl.Fault{Code: 4, Body: 1, Step: 1}},
		{"5 in the first body", planOf(nil, []impl.Step{{Op: impl.BEnd}, loose}, []impl.Step{loose}), impl.Fault{Code: 5, Body: 1, Step: 1}},
		{"5 at the first step", oneBody(impl.Step{Op: impl.BEnd}, loose, loose), impl.Fault{Code: 5, Step: 1}},
		{"6 in an earlier body than 5", planOf(tooDeep, []impl.Step{loose}), impl.Fault{Code: 6, Step: 10}},
		{"5 in an earlier body than 6", planOf([]impl.Step{loose}, tooDeep), impl.Fault{Code: 5}},
		{"6 at an earlier step than 5", oneBody(append(heads(11, 0), loose)...), impl.Fault{Code: 6, Step: 10}},
		{"5 at an earlier step than 6", oneBody(append([]impl.Step{{Op: impl.BIf, Size: 99}}, tooDeep...)...), impl.Fault{Code: 5}},
		{"5 ahead of 6 at one step", oneBody(append(heads(10, 1)[:10], loose)...), impl.Fault{Code: 5, Step: 10}},
		{"6 in the first of two bodies", planOf(nil, append(says(1), tooDeep...), tooDeep), impl.Fault{Code: 6, Body: 1, Step: 11}},
	} {
		wantFault(t, c.name, c.p, c.want)
	}
}

// P1: where blocks may end.
func TestPlanBlocks(t *testing.T) {
	say, end := impl.Step{Op: impl.BSay}, impl.Step{Op: impl.BEnd}
	for _, op := range []int{impl.BIf, impl.BLoop} {
		head := func(size int) impl.Step { return impl.Step{Op: op, A: 3, Size: size} }
		for _, c := range []struct {
			name  string
			steps []impl.Step
			want  impl.Fault
		}{
			{"an empty block at the end", []impl.Step{head(0)}, impl.Fault{}},
			{"an empty block", []impl.Step{head(0), say}, impl.Fault{}},
			{"a block up to the end of the body", []impl.Step{say, head(2), say, end}, impl.Fault{}},
			{"one behind the end of the body", []impl.Step{say, head(3), say, end}, impl.Fault{Code: 5, Step: 1}},
			{"nothing behind the head", []impl.Step{head(1)}, impl.Fault{Code: 5}},
			{"inner ends where outer ends", []impl.Step{head(3), say, head(1), say, end}, impl.Fault{}},
			{"inner ends one before outer", []impl.Step{head(4), say, head(1), say, say, end}, impl.Fault{}},
			{"inner ends one behind outer", []impl.Step{head(3), say, head(2), say, end}, impl.Fault{Code: 5, Step: 2}},
			{"inner is the last of outer and empty", []impl.Step{head(2), say, head(0), say}, impl.Fault{}},
			{"inner is the last of outer and not empty", []impl.Step{head(2), say, head(1), say}, impl.Fault{Code: 5, Step: 2}},
			{"just behind a block", []impl.Step{head(1), say, head(2), say, say}, impl.Fault{}},
			{"second inner ends where outer ends", []impl.Step{head(4), head(1), say, head(1), say}, impl.Fault{}},
			{"second inner ends one behind outer", []impl.Step{head(4), head(1), say, head(2), say, say}, impl.Fault{Code: 5, Step: 3}},
			{"third one ends behind the second alone", []impl.Step{head(5), head(2), head(2), say, say, say}, impl.Fault{Code: 5, Step: 2}},
			{"a very great size", []impl.Step{say, head(math.MaxInt), say}, impl.Fault{Code: 5, Step: 1}},
			{"a great size that would wrap inside a block", []impl.Step{head(2), head(math.MaxInt - 1), say}, impl.Fault{Code: 5, Step: 1}},
			{"a size below 0", []impl.Step{say, head(-1)}, impl.Fault{Code: 4, Step: 1}},
			{"the least size", []impl.Step{head(math.MinInt)}, impl.Fault{Code: 4}},
		} {
			wantFault(t, fmt.Sprintf("op %d: %s", op, c.name), oneBody(c.steps...), c.want)
		}
	}
}

// P1: how deep blocks may stand.
func TestPlanDepth(t *testing.T) {
	wantFault(t, "10 heads", oneBody(heads(10, 3)...), impl.Fault{})
	wantFault(t, "11 heads", oneBody(heads(11, 0)...), impl.Fault{Code: 6, Step: 10})
	wantFault(t, "11 heads with a step inside", oneBody(heads(11, 1)...), impl.Fault{Code: 6, Step: 10})
	wantFault(t, "12 heads", oneBody(heads(12, 0)...), impl.Fault{Code: 6, Step: 10})
	wantFault(t, "100 heads", oneBody(heads(100, 100)...), impl.Fault{Code: 6, Step: 10})
	wantFault(t, "10 heads, and 10 behind them", oneBody(append(heads(10, 1), heads(10, 1)...)...), impl.Fault{})
	wantFault(t, "10 heads, and 11 behind them", oneBody(append(heads(10, 1), heads(11, 0)...)...), impl.Fault{Code: 6, Step: 21})
	wantFault(t, "one body has 10, one 11", planOf(heads(10, 0), heads(11, 0)), impl.Fault{Code: 6, Body: 1, Step: 10})

	second := heads(10, 2)
	second[11] = impl.Step{Op: impl.BLoop}
	wantFault(t, "an eleventh head behind a plain step", oneBody(second...), impl.Fault{Code: 6, Step: 11})

	flat := slices.Repeat([]impl.Step{{Op: impl.BIf}}, 200)
	wantFault(t, "200 empty blocks in a row", oneBody(flat...), impl.Fault{})
}

// P1: fault 4, for all Ops and all mixes of edge values, against the table of the document.
func TestPlanStepTable(t *testing.T) {
	ops := []int{math.MinInt, -1, 17, 1 << 32, 1<<32 + 1, math.MaxInt}
	for op := range 17 {
		ops = append(ops, op)
	}
	for _, p := range []impl.Plan{
		{Bodies: make([]impl.Body, 1), Slice: 1},
		{Bodies: make([]impl.Body, 2), Rooms: make([]int, 3), Slice: 1},
		{Bodies: make([]impl.Body, 20), Rooms: make([]int, 10), Slice: 1},
	} {
		for _, op := range ops {
			tryFields(t, p, op)
		}
	}
}

func tryFields(t *testing.T, p impl.Plan, op int) {
	ints := []int{math.MinInt, -1, 0, 1, 2, 3, 4, 9, 10, 19, 20, 1 << 32, math.MaxInt}
	nums := []int64{math.MinInt64, -1, 0, 1, 2, 3, 9, 10, 999999, 1000000, 1000001, 1 << 32, math.MaxInt64}
	sizes := []int{math.MinInt, -1, 0, 1, 2, math.MaxInt}
	steps := []impl.Step{{}, {Op: impl.BEnd}}
	p.Bodies[0].Steps = steps
	for _, a := range ints {
		for _, b := range ints {
			for _, n := range nums {
				for _, size := range sizes {
					steps[0] = impl.Step{Op: op, A: a, B: b, N: n, Size: size}
					if got, want := impl.PlanOk(p), plainFault(p); got != want {
						t.Fatalf("%v with %d bodies, %d channels: %v, not %v", steps[0], len(p.Bodies), len(p.Rooms), got, want)
					}
				}
			}
		}
	}
}

// P1: fault 4, Op by Op: the greatest fields that are good, and each of them passed.
func TestPlanStepCases(t *testing.T) {
	two := func(s impl.Step) impl.Plan { return planOf(nil, []impl.Step{s}) }
	for _, s := range []impl.Step{
		{Op: impl.BSet, A: 3, N: math.MinInt64},
		{Op: impl.BAdd, A: 3, B: 3, N: math.MaxInt64},
		{Op: impl.BSay, A: 3},
		{Op: impl.BNow, A: 3},
		{Op: impl.BSleep, A: 3},
		{Op: impl.BYield},
		{Op: impl.BSpawn, A: 3, B: 1},
		{Op: impl.BWait, A: 3},
		{Op: impl.BSend, A: 3, B: 2},
		{Op: impl.BTake, A: 3, B: 2},
		{Op: impl.BFor, A: 3, B: 2, N: 1000000},
		{Op: impl.BFor},
		{Op: impl.BPick, A: 3, B: 2, N: 2},
		{Op: impl.BPick, A: 3, B: 0, N: 2},
		{Op: impl.BClose, B: 2},
		{Op: impl.BEnd},
		{Op: impl.BLoop, A: 3},
		{Op: impl.BIf, A: 3},
	} {
		wantFault(t, fmt.Sprint(s), two(s), impl.Fault{})
	}
	for _, s := range []impl.Step{
		{},
		{Op: 17},
		{Op: -1},
		{Op: impl.BSet, B: 1},
		{Op: impl.BSet, A: -1},
		{Op: impl.BAdd, B: 4},
		{Op: impl.BAdd, B: -1},
		{Op: impl.BSay, N: 1},
		{Op: impl.BNow, Size: 1},
		{Op: impl.BYield, A: 1},
		{Op: impl.BYield, Size: -1},
		{Op: impl.BSpawn, B: 2},
		{Op: impl.BSpawn, B: -1},
		{Op: impl.BSpawn, N: 1},
		{Op: impl.BWait, B: 1},
		{Op: impl.BSend, B: 3},
		{Op: impl.BTake, B: -1},
		{Op: impl.BTake, N: 1},
		{Op: impl.BFor, N: 1000001},
		{Op: impl.BFor, N: -1},
		{Op: impl.BPick, B: 3},
		{Op: impl.BPick, N: 3},
		{Op: impl.BPick, N: -1},
		{Op: impl.BPick, N: 1 << 32},
		{Op: impl.BClose, A: 1},
		{Op: impl.BClose, B: 3},
		{Op: impl.BEnd, N: -1},
		{Op: impl.BLoop, B: 1},
		{Op: impl.BIf, N: 1},
	} {
		wantFault(t, fmt.Sprint(s), two(s), impl.Fault{Code: 4, Body: 1})
	}
	none := impl.Plan{Bodies: []impl.Body{{Steps: []impl.Step{{Op: impl.BClose}}}}, Slice: 1}
	wantFault(t, "a channel where there are none", none, impl.Fault{Code: 4})
}

// P1: many plans with blocks of all kinds, against the words of the document.
func TestPlanBlocksAtRandom(t *testing.T) {
	d := &dice{state: 7}
	seen := map[int]int{}
	for range 40000 {
		p := impl.Plan{Rooms: []int{1}, Slice: 1}
		for range 1 + d.below(3) {
			p.Bodies = append(p.Bodies, impl.Body{Steps: randomBlocks(d)})
		}
		got, want := impl.PlanOk(p), plainFault(p)
		if got != want {
			t.Fatalf("%v: %v, not %v", p, got, want)
		}
		seen[want.Code]++
	}
	for _, code := range []int{0, 4, 5, 6} {
		if seen[code] < 100 {
			t.Errorf("only %d plans with code %d", seen[code], code)
		}
	}
}

// randomBlocks makes blocks that are mostly nested well, and now and then end too late or hold a bad step.
func randomBlocks(d *dice) []impl.Step {
	n := d.below(30)
	often := 1 + d.below(12)
	steps := make([]impl.Step, n)
	ends := []int{n}
	for s := range steps {
		for ends[len(ends)-1] == s {
			ends = ends[:len(ends)-1]
		}
		room := ends[len(ends)-1] - s - 1
		switch {
		case d.below(12) < often:
			size := room - d.below(2)*d.below(room+1)
			if d.below(60) == 0 {
				size += 1 + d.below(3)
			}
			steps[s] = impl.Step{Op: impl.BLoop + d.below(2), Size: size}
			if size <= room {
				ends = append(ends, s+size+1)
			}
		case d.below(200) == 0:
			steps[s] = badStep
		default:
			steps[s] = impl.Step{Op: impl.BSay}
		}
	}
	return steps
}

// P1: nothing is written into an argument, behind the end of its lists neither, and the answer stays.
func TestPlanIsNotWritten(t *testing.T) {
	for _, p := range []impl.Plan{
		{},
		planOf(heads(10, 4), says(3), []impl.Step{{Op: impl.BPick, N: 2}}),
		planOf(heads(11, 0)),
		planOf([]impl.Step{badStep}),
		planOf([]impl.Step{{Op: impl.BLoop, Size: 5}}),
	} {
		p = sparePlan(p)
		before := wholePlan(p)
		first := impl.PlanOk(p)
		wantSamePlan(t, p, before)
		wantFault(t, "again", p, first)
		wantSamePlan(t, p, before)
	}
}
