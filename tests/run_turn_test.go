package tests

import (
	"fmt"
	"math"
	"slices"
	"strings"
	"testing"

	"loop.example/beat/impl"
)

// failing is a body that fails with 2.
var failing = steps{set(0, -1), sleep(0)}

func withTicks(n int) impl.Input { return impl.Input{Ticks: n, Until: 100} }

// P2: registers, blocks, and the ticks that they cost.
func TestRunSteps(t *testing.T) {
	ten := steps{set(0, 1)}
	for k := range 10 {
		ten = append(ten, when(0, 10-k))
	}
	ten = append(ten, say(0), say(1))
	wantRuns(t, []runCase{
		{"a body without steps", planWith(1, nil, steps{}), feed(), "0: t0 e0 | 0 0 | 6"},
		{"registers begin at 0", planWith(10, nil, steps{say(0), say(1), say(2), say(3)}), feed(), "0: t0 s0=0 s0=0 s0=0 s0=0 e0 | 0 4 | 6"},
		{"set and add", planWith(10, nil, steps{set(0, 7), add(1, 0, -9), say(1), add(1, 1, 1), say(1), add(3, 0, 0), say(3)}), feed(), "0: t0 s0=-2 s0=-1 s0=7 e0 | 0 7 | 6"},
		{"sums wrap", planWith(10, nil, steps{set(0, math.MaxInt64), add(0, 0, 1), say(0), set(1, math.MinInt64), add(1, 1, -1), say(1)}), feed(), "0: t0 s0=-9223372036854775808 s0=9223372036854775807 e0 | 0 6 | 6"},
		{"a loop", planWith(100, nil, steps{set(0, 2), loop(0, 1), say(0), say(3)}), feed(), "0: t0 s0=1 s0=0 s0=0 e0 | 0 7 | 6"},
		{"a loop below 0", planWith(100, nil, steps{set(0, -1), loop(0, 1), say(3), say(0)}), feed(), "0: t0 s0=-1 e0 | 0 3 | 6"},
		{"a loop at 0", planWith(100, nil, steps{loop(0, 1), end(), say(0)}), feed(), "0: t0 s0=0 e0 | 0 2 | 6"},
		{"an empty loop", planWith(100, nil, steps{set(0, 3), loop(0, 0), say(0)}), feed(), "0: t0 s0=0 e0 | 0 6 | 6"},
		{"looks of a loop in slices", planWith(2, nil, steps{set(0, 3), loop(0, 0), say(0)}), feed(), "0: t0 t0 t0 s0=0 t0 e0 | 0 6 | 6"},
		{"a loop whose block sets its register", planWith(100, nil, steps{set(0, 3), loop(0, 2), say(0), set(0, 0)}), feed(), "0: t0 s0=2 e0 | 0 5 | 6"},
		{"blocks that are done when not 0", planWith(100, nil, steps{set(0, -1), when(0, 1), say(0), when(1, 1), say(1), say(2)}), feed(), "0: t0 s0=-1 s0=0 e0 | 0 5 | 6"},
		{"a loop in a loop", planWith(100, nil, steps{set(0, 2), loop(0, 4), set(1, 2), loop(1, 1), say(1), say(0), say(2)}), feed(), "0: t0 s0=1 s0=0 s0=1 s0=1 s0=0 s0=0 s0=0 e0 | 0 19 | 6"},
		{"blocks that end together", planWith(100, nil, steps{set(0, 2), set(1, 1), loop(0, 4), set(2, 1), when(1, 2), loop(2, 1), say(0)}), feed(), "0: t0 s0=1 s0=0 e0 | 0 15 | 6"},
		{"an end in blocks", planWith(100, nil, steps{set(0, 5), loop(0, 2), when(0, 1), end(), say(0)}), feed(), "0: t0 e0 | 0 4 | 6"},
		{"ten blocks", planWith(100, nil, ten), feed(), "0: t0 s0=1 s0=0 e0 | 0 13 | 6"},
	})
}

// P2: what a slice is, and the end of a body at the end of one.
func TestRunSlices(t *testing.T) {
	hundred := strings.Repeat(" s0=0", 100)
	wantRuns(t, []runCase{
		{"the end of a body when the slice is used up", planWith(2, nil, says(2)), feed(), "0: t0 s0=0 s0=0 t0 e0 | 0 2 | 6"},
		{"the end of a body when it is not", planWith(3, nil, says(2)), feed(), "0: t0 s0=0 s0=0 e0 | 0 2 | 6"},
		{"one step more than the slice", planWith(2, nil, says(3)), feed(), "0: t0 s0=0 s0=0 t0 s0=0 e0 | 0 3 | 6"},
		{"slice 1", planWith(1, nil, says(2)), feed(), "0: t0 s0=0 t0 s0=0 t0 e0 | 0 2 | 6"},
		{"slice 100 and 99 steps", planWith(100, nil, says(99)), feed(), "0: t0" + hundred[5:] + " e0 | 0 99 | 6"},
		{"slice 100 and 100 steps", planWith(100, nil, says(100)), feed(), "0: t0" + hundred + " t0 e0 | 0 100 | 6"},
		{"slice 100 and 101 steps", planWith(100, nil, says(101)), feed(), "0: t0" + hundred + " t0 s0=0 e0 | 0 101 | 6"},
		{"the end of a block when the slice is used up", planWith(3, nil, steps{set(0, 1), loop(0, 1), say(0)}), feed(), "0: t0 s0=0 t0 e0 | 0 4 | 6"},
		{"BEnd at the end of the slice", planWith(1, nil, steps{end()}), feed(), "0: t0 e0 | 0 1 | 6"},
		{"a failure at the end of the slice", planWith(2, nil, failing), feed(), "0: t0 f0=2 | 0 2 | 7"},
		{"a wait at the end of the slice", planWith(1, nil, steps{wait(0)}), feed(), "1: t0 | 0 1 | 3"},
		{"a yield at the end of the slice makes ready once", planWith(1, nil, steps{yield(), say(0)}), feed(), "0: t0 t0 s0=0 t0 e0 | 0 2 | 6"},
		{"a turn has a slice of its own", planWith(3, nil, steps{say(0), yield(), say(0), say(0), say(0), say(0)}), feed(), "0: t0 s0=0 t0 s0=0 s0=0 s0=0 t0 s0=0 e0 | 0 6 | 6"},
		{"a task has slices of its own", planWith(2, nil, append(steps{spawn(0, 1)}, says(2)...), says(2)), feed(), "0: t0 s0=1 t1 s1=0 s1=0 t0 s0=1 e0 t1 e1 | 0 5 | 6 6"},
		{"who is made at the end of a slice is ready first", planWith(1, nil, steps{spawn(0, 1), say(0)}, says(1)), feed(), "0: t0 t1 s1=0 t0 s0=1 t1 e1 t0 e0 | 0 3 | 6 6"},
		{"who gets a number at the end of a slice is ready first", planWith(2, rooms(0), steps{spawn(0, 1), yield(), set(0, 5), send(0, 0), say(0)}, steps{take(0, 0), say(0)}), feed(), "0: t0 t1 t0 t1 s1=5 e1 t0 s0=5 e0 | 0 7 | 6 6"},
		{"a slice behind a wait is a whole one", planWith(2, nil, steps{say(0), sleep(0), say(0), say(0)}), feed(), "0: t0 s0=0 t0 s0=0 s0=0 t0 e0 | 0 4 | 6"},
	})
}

// P2, P3: each limit of ticks met exactly, and passed by one.
func TestRunTicks(t *testing.T) {
	fifty := strings.Repeat(" t0", 50)
	states := planWith(10, rooms(0, 0),
		steps{spawn(0, 1), spawn(0, 2), spawn(0, 3), spawn(0, 4), spawn(0, 5), spawn(0, 6), spawn(0, 7), yield(), say(0), say(0)},
		steps{take(0, 0)},
		steps{set(0, 1), sleep(0)},
		steps{send(0, 1)},
		steps{wait(0)},
		nil,
		steps{set(0, -1), wait(0)},
		steps{yield(), yield()},
	)
	wantRuns(t, []runCase{
		{"no ticks", planWith(1, nil, says(1)), withTicks(0), "2: t0 | 0 0 | 1"},
		{"no ticks, and none is due", planWith(1, nil, steps{}), withTicks(0), "0: t0 e0 | 0 0 | 6"},
		{"as many ticks as steps", planWith(10, nil, says(3)), withTicks(3), "0: t0 s0=0 s0=0 s0=0 e0 | 0 3 | 6"},
		{"one tick too few", planWith(10, nil, says(3)), withTicks(2), "2: t0 s0=0 s0=0 | 0 2 | 1"},
		{"ticks and slice used up", planWith(2, nil, says(2)), withTicks(2), "0: t0 s0=0 s0=0 t0 e0 | 0 2 | 6"},
		{"ticks and slice used up, one step more", planWith(2, nil, says(3)), withTicks(2), "2: t0 s0=0 s0=0 t0 | 0 2 | 1"},
		{"a tick for a block", planWith(10, nil, steps{set(0, 9), loop(0, 1), say(0)}), withTicks(4), "2: t0 s0=8 | 0 4 | 1"},
		{"a tick for a look", planWith(10, nil, steps{set(0, 9), loop(0, 1), say(0)}), withTicks(3), "2: t0 s0=8 | 0 3 | 1"},
		{"a tick for BIf", planWith(10, nil, steps{when(0, 0)}), withTicks(0), "2: t0 | 0 0 | 1"},
		{"a tick for BEnd", planWith(10, nil, steps{say(0), end()}), withTicks(1), "2: t0 s0=0 | 0 1 | 1"},
		{"a failure costs its tick alone", planWith(10, nil, failing), withTicks(2), "0: t0 f0=2 | 0 2 | 7"},
		{"no tick for going on behind a wait", planWith(10, nil, steps{set(0, 4), sleep(0)}), withTicks(2), "0: t0 @4 t0 e0 | 4 2 | 6"},
		{"5000 ticks used", planWith(100, nil, steps{set(0, 4998), loop(0, 0)}), withTicks(5000), "0:" + fifty + " t0 e0 | 0 5000 | 6"},
		{"5001 ticks asked for", planWith(100, nil, steps{set(0, 4999), loop(0, 0)}), withTicks(5000), "2:" + fifty + " t0 | 0 5000 | 1"},
		{"all states", states, withTicks(17), "2: t0 t1 t2 t3 t4 t5 e5 t6 f6=3 t7 t0 s0=7 | 0 17 | 1 5 2 4 3 6 7 0"},
		{"later than time 0", planWith(10, nil, steps{set(0, 4), sleep(0), say(0)}), withTicks(2), "2: t0 @4 t0 | 4 2 | 1"},
	})
}

// P2, P5: the row.
func TestRunRow(t *testing.T) {
	wantRuns(t, []runCase{
		{"who yields comes behind who was made", planWith(2, nil, steps{spawn(0, 1), yield(), say(0)}, says(1)), feed(), "0: t0 t1 s1=0 e1 t0 s0=1 e0 | 0 4 | 6 6"},
		{"nobody twice before the others", planWith(1, nil, steps{spawn(0, 1), spawn(0, 1), yield()}, says(2)), feed(), "0: t0 t1 s1=0 t0 t1 s1=0 t2 s2=0 t0 t1 e1 t2 s2=0 t0 e0 t2 e2 | 0 7 | 6 6 6"},
		{"who is alone has all turns", planWith(9, nil, steps{yield(), yield(), yield()}), feed(), "0: t0 t0 t0 t0 e0 | 0 3 | 6"},
		{"a new task has registers of its own", planWith(9, nil, steps{set(0, 5), set(3, 6), spawn(1, 1)}, steps{say(0), say(3)}), feed(), "0: t0 e0 t1 s1=0 s1=0 e1 | 0 5 | 6 6"},
		{"the number of a new task in the flag", planWith(9, nil, steps{spawn(3, 1), say(3)}, nil), feed(), "0: t0 s0=1 e0 t1 e1 | 0 2 | 6 6"},
		{"a failure leaves the rest undone", planWith(9, nil, append(slices.Clone(failing), say(0))), feed(), "0: t0 f0=2 | 0 2 | 7"},
		{"a failure is of its task alone", planWith(9, nil, steps{spawn(0, 1), yield(), say(0)}, failing), feed(), "0: t0 t1 f1=2 t0 s0=1 e0 | 0 5 | 6 7"},
	})
}

// P2: who waits for a task.
func TestRunWait(t *testing.T) {
	wantRuns(t, []runCase{
		{"three wait", planWith(100, nil, steps{spawn(1, 1), spawn(1, 1), spawn(1, 1), yield()}, steps{wait(0), say(3), say(0)}), feed(), "0: t0 t1 t2 t3 t0 e0 t1 s1=1 s1=0 e1 t2 s2=1 s2=0 e2 t3 s3=1 s3=0 e3 | 0 13 | 6 6 6 6"},
		{"the longest first", planWith(100, nil, steps{spawn(1, 1), spawn(1, 2), yield(), yield()}, steps{yield(), wait(0), say(3)}, steps{wait(0), say(3)}), feed(), "0: t0 t1 t2 t0 t1 t0 e0 t2 s2=1 e2 t1 s1=1 e1 | 0 9 | 6 6 6"},
		{"for who has ended", planWith(100, nil, steps{spawn(0, 1), yield(), wait(0), say(0), say(3)}, nil), feed(), "0: t0 t1 e1 t0 s0=0 s0=1 e0 | 0 5 | 6 6"},
		{"for who has failed", planWith(100, nil, steps{spawn(0, 1), set(3, 7), yield(), wait(0), say(0), say(3)}, failing), feed(), "0: t0 t1 f1=2 t0 s0=0 s0=0 e0 | 0 8 | 6 7"},
		{"for who fails meanwhile", planWith(100, nil, steps{spawn(0, 1), set(3, 7), wait(0), say(0), say(3)}, failing), feed(), "0: t0 t1 f1=2 t0 s0=0 s0=0 e0 | 0 7 | 6 7"},
		{"by the flag, for who ends", planWith(100, nil, steps{spawn(3, 1), wait(3), say(3)}, nil), feed(), "0: t0 t1 e1 t0 s0=1 e0 | 0 3 | 6 6"},
		{"by the flag, for who has ended", planWith(100, nil, steps{spawn(3, 1), yield(), wait(3), say(3)}, nil), feed(), "0: t0 t1 e1 t0 s0=1 e0 | 0 4 | 6 6"},
		{"by the flag, for who fails", planWith(100, nil, steps{spawn(3, 1), wait(3), say(3)}, failing), feed(), "0: t0 t1 f1=2 t0 s0=0 e0 | 0 5 | 6 7"},
		{"for itself", planWith(100, nil, steps{wait(0), say(0)}), feed(), "1: t0 | 0 1 | 3"},
		{"for one another", planWith(100, nil, steps{spawn(0, 1), wait(0)}, steps{wait(0)}), feed(), "1: t0 t1 | 0 3 | 3 3"},
		{"for who never ends", planWith(100, rooms(0), steps{spawn(0, 1), wait(0)}, steps{take(0, 0)}), feed(), "1: t0 t1 | 0 3 | 3 5"},
		{"for who sleeps", planWith(100, nil, steps{spawn(0, 1), wait(0), say(3)}, steps{set(0, 7), sleep(0)}), feed(), "0: t0 t1 @7 t1 e1 t0 s0=1 e0 | 7 5 | 6 6"},
		{"BEnd is an end", planWith(100, nil, steps{spawn(0, 1), wait(0), say(3)}, steps{end()}), feed(), "0: t0 t1 e1 t0 s0=1 e0 | 0 4 | 6 6"},
	})
}

// P2: failures 1, 2 and 3. Those of channels stand with the channels.
func TestRunFailures(t *testing.T) {
	others, sixes := "", strings.Repeat(" 6", 49)
	chain := ""
	for k := range 49 {
		others += fmt.Sprintf(" t%d e%d", k+1, k+1)
		chain += fmt.Sprintf(" t%d e%d", k, k)
	}
	wantRuns(t, []runCase{
		{"50 tasks", planWith(100, nil, steps{set(1, 49), loop(1, 1), spawn(0, 1)}, nil), feed(), "0: t0" + others + " t0 e0 | 0 100 | 6" + sixes},
		{"a task more, when the others are over", planWith(100, nil, steps{set(1, 50), loop(1, 1), spawn(0, 1)}, nil), feed(), "0: t0" + others + " t0 f0=1 | 0 101 | 7" + sixes},
		{"each makes the next one", planWith(9, nil, steps{spawn(0, 0)}), feed(), "0:" + chain + " t49 f49=1 | 0 50 |" + sixes + " 7"},
	})
	for _, n := range []int64{-1, 1000001, math.MinInt64, math.MaxInt64, 1 << 32} {
		wantRuns(t, []runCase{{"a sleep of " + fmt.Sprint(n), planWith(9, nil, steps{set(0, n), sleep(0)}), feed(), "0: t0 f0=2 | 0 2 | 7"}})
	}
	for _, n := range []int64{-1, 2, 50, math.MinInt64, math.MaxInt64, 1 << 32, 1<<32 + 1} {
		wantRuns(t, []runCase{{"a wait for " + fmt.Sprint(n), planWith(9, nil, steps{spawn(0, 1), set(0, n), wait(0)}, nil), feed(), "0: t0 f0=3 t1 e1 | 0 3 | 7 6"}})
	}
}

// notValidCase is a plan and an input of which one is not valid.
type notValidCase struct {
	name string
	p    impl.Plan
	in   impl.Input
}

func notValid() []notValidCase {
	good := planWith(5, rooms(1), says(2))
	return []notValidCase{
		{"zero values", impl.Plan{}, impl.Input{}},
		{"no bodies", impl.Plan{Slice: 1}, feed()},
		{"21 bodies", impl.Plan{Bodies: make([]impl.Body, 21), Slice: 1}, feed()},
		{"slice 0", planWith(0, nil, says(1)), feed()},
		{"slice 101", planWith(101, nil, says(1)), feed()},
		{"room 11", planWith(1, rooms(11), says(1)), feed()},
		{"room -1", planWith(1, rooms(-1), says(1)), feed()},
		{"11 channels", planWith(1, make([]int, 11), says(1)), feed()},
		{"201 steps", planWith(1, nil, says(201)), feed()},
		{"a bad step", planWith(1, nil, steps{badStep}), feed()},
		{"a bad step that nobody does", planWith(1, nil, says(1), steps{badStep}), feed()},
		{"a channel that there is not", planWith(1, rooms(0), steps{send(0, 1)}), feed()},
		{"a body that there is not", planWith(1, rooms(0), steps{spawn(0, 1)}), feed()},
		{"a block that ends too late", planWith(1, nil, steps{when(0, 1)}), feed()},
		{"11 blocks", planWith(1, nil, heads(11, 0)), feed()},
		{"5001 ticks", good, impl.Input{Ticks: 5001}},
		{"-1 ticks", good, impl.Input{Ticks: -1}},
		{"until -1", good, impl.Input{Until: -1}},
		{"until 1000001", good, impl.Input{Until: 1000001}},
		{"an event of no channel", good, feed(event(0, 1, 0))},
		{"an event of channel -1", good, feed(event(0, -1, 0))},
		{"an event ahead of 0", good, feed(event(-1, 0, 0))},
		{"an event too late", good, feed(event(1000001, 0, 0))},
		{"events out of order", good, feed(event(2, 0, 0), event(1, 0, 0))},
		{"101 events", good, feed(make([]impl.Event, 101)...)},
	}
}

// P2: a plan or an input that is not valid has Code 3, and nothing else.
func TestRunNotValid(t *testing.T) {
	for _, c := range notValid() {
		r := impl.RunPlan(c.p, c.in)
		if r.Code != 3 || len(r.Recs) != 0 || r.Time != 0 || r.Ticks != 0 || len(r.States) != 0 {
			t.Errorf("%s: %s", c.name, told(r))
		}
	}
}
