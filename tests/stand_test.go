package tests

import (
	"math"
	"slices"
	"testing"

	"loop.example/beat/impl"
)

// P10: at a turn the task runs and has left the row; at what it says, and at its end, the step is not done yet.
func TestStandAtTurns(t *testing.T) {
	wantStands(t, []standCase{
		{"says and ends", planWith(9, nil, steps{set(0, 7), say(0), set(1, -2)}), feed(), []string{
			"t0 @0 row[] tasks[runs()] chans[]",
			"s0=7 @0 row[] tasks[runs(7)] chans[]",
			"e0 @0 row[] tasks[runs(7,-2)] chans[]",
		}},
		{"BEnd is no step further", planWith(9, nil, steps{set(0, 7), end(), say(0)}), feed(), []string{
			"t0 @0 row[] tasks[runs()] chans[]",
			"e0 @0 row[] tasks[runs(7)] chans[]",
		}},
		{"a row of three", planWith(9, nil, steps{spawn(0, 1), spawn(1, 1), yield()}, nil), feed(), []string{
			"t0 @0 row[] tasks[runs()] chans[]",
			"t1 @0 row[2 0] tasks[ready(1,2) runs() ready()] chans[]",
			"e1 @0 row[2 0] tasks[ready(1,2) runs() ready()] chans[]",
			"t2 @0 row[0] tasks[ready(1,2) ended() runs()] chans[]",
			"e2 @0 row[0] tasks[ready(1,2) ended() runs()] chans[]",
			"t0 @0 row[] tasks[runs(1,2) ended() ended()] chans[]",
			"e0 @0 row[] tasks[runs(1,2) ended() ended()] chans[]",
		}},
		{"the slice is used up", planWith(2, nil, steps{spawn(0, 1), say(0), say(3)}, steps{set(2, 4)}), feed(), []string{
			"t0 @0 row[] tasks[runs()] chans[]",
			"s0=1 @0 row[1] tasks[runs(1) ready()] chans[]",
			"t1 @0 row[0] tasks[ready(1) runs()] chans[]",
			"e1 @0 row[0] tasks[ready(1) runs(0,0,4)] chans[]",
			"t0 @0 row[] tasks[runs(1) ended(0,0,4)] chans[]",
			"s0=0 @0 row[] tasks[runs(1) ended(0,0,4)] chans[]",
			"e0 @0 row[] tasks[runs(1) ended(0,0,4)] chans[]",
		}},
		{"the greatest and the least number", planWith(9, rooms(1), steps{set(0, math.MaxInt64), send(0, 0), set(3, math.MinInt64), say(3)}), feed(), []string{
			"t0 @0 row[] tasks[runs()] chans[open()]",
			"s0=-9223372036854775808 @0 row[] tasks[runs(9223372036854775807,0,0,-9223372036854775808)] chans[open(9223372036854775807)]",
			"e0 @0 row[] tasks[runs(9223372036854775807,0,0,-9223372036854775808)] chans[open(9223372036854775807)]",
		}},
		{"a turn without a tick", planWith(9, rooms(0, 3), steps{set(0, 7)}), withTicks(0), []string{
			"t0 @0 row[] tasks[runs()] chans[open() open()]",
		}},
	})
}

// P10: at an end, and at a failure, those who wait for the task are not ready yet.
func TestStandAtEndsAndFailures(t *testing.T) {
	waiter := steps{spawn(0, 1), set(3, 9), wait(0), say(3)}
	wantStands(t, []standCase{
		{"one who waits, at the end of a body", planWith(9, nil, waiter, nil), feed(), []string{
			"t0 @0 row[] tasks[runs()] chans[]",
			"t1 @0 row[] tasks[waits(1,0,0,9) runs()] chans[]",
			"e1 @0 row[] tasks[waits(1,0,0,9) runs()] chans[]",
			"t0 @0 row[] tasks[runs(0,0,0,1) ended()] chans[]",
			"s0=1 @0 row[] tasks[runs(0,0,0,1) ended()] chans[]",
			"e0 @0 row[] tasks[runs(0,0,0,1) ended()] chans[]",
		}},
		{"one who waits, at BEnd", planWith(9, nil, waiter[:3], steps{end()}), feed(), []string{
			"t0 @0 row[] tasks[runs()] chans[]",
			"t1 @0 row[] tasks[waits(1,0,0,9) runs()] chans[]",
			"e1 @0 row[] tasks[waits(1,0,0,9) runs()] chans[]",
			"t0 @0 row[] tasks[runs(0,0,0,1) ended()] chans[]",
			"e0 @0 row[] tasks[runs(0,0,0,1) ended()] chans[]",
		}},
		{"one who waits, at a failure", planWith(9, nil, waiter[:3], failing), feed(), []string{
			"t0 @0 row[] tasks[runs()] chans[]",
			"t1 @0 row[] tasks[waits(1,0,0,9) runs()] chans[]",
			"f1=2 @0 row[] tasks[waits(1,0,0,9) runs(-1)] chans[]",
			"t0 @0 row[] tasks[runs() failed(-1)] chans[]",
			"e0 @0 row[] tasks[runs() failed(-1)] chans[]",
		}},
		{"two who wait, the longest first in the row", planWith(9, nil, steps{spawn(1, 1), spawn(1, 2), yield(), yield()}, steps{yield(), wait(0)}, steps{wait(0)}), feed(), []string{
			"t0 @0 row[] tasks[runs()] chans[]",
			"t1 @0 row[2 0] tasks[ready(0,2) runs() ready()] chans[]",
			"t2 @0 row[0 1] tasks[ready(0,2) ready() runs()] chans[]",
			"t0 @0 row[1] tasks[runs(0,2) ready() waits()] chans[]",
			"t1 @0 row[0] tasks[ready(0,2) runs() waits()] chans[]",
			"t0 @0 row[] tasks[runs(0,2) waits() waits()] chans[]",
			"e0 @0 row[] tasks[runs(0,2) waits() waits()] chans[]",
			"t2 @0 row[1] tasks[ended(0,2) ready(0,0,0,1) runs(0,0,0,1)] chans[]",
			"e2 @0 row[1] tasks[ended(0,2) ready(0,0,0,1) runs(0,0,0,1)] chans[]",
			"t1 @0 row[] tasks[ended(0,2) runs(0,0,0,1) ended(0,0,0,1)] chans[]",
			"e1 @0 row[] tasks[ended(0,2) runs(0,0,0,1) ended(0,0,0,1)] chans[]",
		}},
		{"failure 3", planWith(9, nil, steps{set(0, 8), set(3, 6), wait(0)}), feed(), []string{
			"t0 @0 row[] tasks[runs()] chans[]",
			"f0=3 @0 row[] tasks[runs(8,0,0,6)] chans[]",
		}},
		{"failure 4", planWith(9, rooms(1), steps{set(0, 8), send(0, 0), shut(0), send(0, 0)}), feed(), []string{
			"t0 @0 row[] tasks[runs()] chans[open()]",
			"f0=4 @0 row[] tasks[runs(8)] chans[shut(8)]",
		}},
		{"failure 5", planWith(9, rooms(1, 0), steps{shut(1), shut(1)}), feed(), []string{
			"t0 @0 row[] tasks[runs()] chans[open() open()]",
			"f0=5 @0 row[] tasks[runs()] chans[open() shut()]",
		}},
	})
}

// P10: failure 1: the task that could not be made is not there, and the register of its number is as it was.
func TestStandAtFullHouse(t *testing.T) {
	p := planWith(100, nil, steps{set(1, 50), loop(1, 1), spawn(0, 1)}, nil)
	recs := impl.RunPlan(p, feed()).Recs
	last := len(recs) - 1
	if recs[last].Kind != impl.KFail || recs[last].Num != 1 {
		t.Fatalf("the last record is %v", recs[last])
	}
	s := impl.StandAt(p, feed(), last)
	if len(s.States) != 50 || s.States[0] != impl.SRunning || !slices.Equal(s.Regs[0], []int64{49, 0, 0, 0}) {
		t.Errorf("%s", toldStand(s))
	}
	wantPlainStands(t, "50 tasks", p, feed())
}

// P10: at KTime the time is new and nobody is awake yet; at KFeed who was due is ready, and the event is not sent yet.
func TestStandAtTimes(t *testing.T) {
	wantStands(t, []standCase{
		{"a sleep", planWith(9, nil, steps{set(0, 3), sleep(0), now(1)}), feed(), []string{
			"t0 @0 row[] tasks[runs()] chans[]",
			"@3 @3 row[] tasks[asleep(3)] chans[]",
			"t0 @3 row[] tasks[runs(3)] chans[]",
			"e0 @3 row[] tasks[runs(3,3)] chans[]",
		}},
		{"two are due, in the order of asking", planWith(9, nil, steps{spawn(1, 1), yield(), set(0, 3), sleep(0)}, steps{set(0, 3), sleep(0)}), feed(), []string{
			"t0 @0 row[] tasks[runs()] chans[]",
			"t1 @0 row[0] tasks[ready(0,1) runs()] chans[]",
			"t0 @0 row[] tasks[runs(0,1) asleep(3)] chans[]",
			"@3 @3 row[] tasks[asleep(3,1) asleep(3)] chans[]",
			"t1 @3 row[0] tasks[ready(3,1) runs(3)] chans[]",
			"e1 @3 row[0] tasks[ready(3,1) runs(3)] chans[]",
			"t0 @3 row[] tasks[runs(3,1) ended(3)] chans[]",
			"e0 @3 row[] tasks[runs(3,1) ended(3)] chans[]",
		}},
		{"events behind one who is due", planWith(9, rooms(1), steps{set(0, 2), sleep(0), take(1, 0)}), feed(event(2, 0, 9), event(2, 0, 8)), []string{
			"t0 @0 row[] tasks[runs()] chans[open()]",
			"@2 @2 row[] tasks[asleep(2)] chans[open()]",
			"<9 @2 row[0] tasks[ready(2)] chans[open()]",
			"<8 @2 row[0] tasks[ready(2)] chans[open(9)]",
			"t0 @2 row[] tasks[runs(2)] chans[open(9 s-1)]",
			"e0 @2 row[] tasks[runs(2,9,0,1)] chans[open(8)]",
		}},
		{"events into two channels", planWith(9, rooms(0, 2), steps{}), feed(event(0, 1, 4), event(1, 1, 5), event(1, 0, 6), event(1, 0, 7), event(1, 1, 8)), []string{
			"t0 @0 row[] tasks[runs()] chans[open() open()]",
			"e0 @0 row[] tasks[runs()] chans[open() open()]",
			"<4 @0 row[] tasks[ended()] chans[open() open()]",
			"@1 @1 row[] tasks[ended()] chans[open() open(4)]",
			"<5 @1 row[] tasks[ended()] chans[open() open(4)]",
			"<6 @1 row[] tasks[ended()] chans[open() open(4 5)]",
			"<7 @1 row[] tasks[ended()] chans[open(s-1) open(4 5)]",
			"<8 @1 row[] tasks[ended()] chans[open(s-1 s-1) open(4 5)]",
		}},
		{"one who takes two events of one time", planWith(9, rooms(0), steps{take(0, 0), take(1, 0)}), feed(event(4, 0, 5), event(4, 0, 6)), []string{
			"t0 @0 row[] tasks[runs()] chans[open()]",
			"@4 @4 row[] tasks[takes()] chans[open(t0)]",
			"<5 @4 row[] tasks[takes()] chans[open(t0)]",
			"<6 @4 row[0] tasks[ready(5,0,0,1)] chans[open()]",
			"t0 @4 row[] tasks[runs(5,0,0,1)] chans[open(s-1)]",
			"e0 @4 row[] tasks[runs(5,6,0,1)] chans[open()]",
		}},
		{"one who takes, and waits again", planWith(9, rooms(0), steps{take(0, 0), take(1, 0)}), feed(event(4, 0, 5), event(5, 0, 6)), []string{
			"t0 @0 row[] tasks[runs()] chans[open()]",
			"@4 @4 row[] tasks[takes()] chans[open(t0)]",
			"<5 @4 row[] tasks[takes()] chans[open(t0)]",
			"t0 @4 row[] tasks[runs(5,0,0,1)] chans[open()]",
			"@5 @5 row[] tasks[takes(5,0,0,1)] chans[open(t0)]",
			"<6 @5 row[] tasks[takes(5,0,0,1)] chans[open(t0)]",
			"t0 @5 row[] tasks[runs(5,6,0,1)] chans[open()]",
			"e0 @5 row[] tasks[runs(5,6,0,1)] chans[open()]",
		}},
	})
}

// P10: who sends and who takes, and what is in the channel.
func TestStandInLines(t *testing.T) {
	wantStands(t, []standCase{
		{"two who send, and room for one", planWith(9, rooms(1), steps{spawn(3, 1), set(0, 4), send(0, 0), set(0, 5), send(0, 0)}, steps{set(0, 6), send(0, 0)}), feed(), []string{
			"t0 @0 row[] tasks[runs()] chans[open()]",
			"t1 @0 row[] tasks[sends(5,0,0,1) runs()] chans[open(4 s0)]",
		}},
		{"who sends goes on when there is room", planWith(9, rooms(1), steps{spawn(1, 1), set(0, 4), send(0, 0), set(0, 5), send(0, 0)}, steps{take(0, 0), say(0), take(0, 0)}), feed(), []string{
			"t0 @0 row[] tasks[runs()] chans[open()]",
			"t1 @0 row[] tasks[sends(5,1) runs()] chans[open(4 s0)]",
			"s1=4 @0 row[0] tasks[ready(5,1) runs(4,0,0,1)] chans[open(5)]",
			"e1 @0 row[0] tasks[ready(5,1) runs(5,0,0,1)] chans[open()]",
			"t0 @0 row[] tasks[runs(5,1) ended(5,0,0,1)] chans[open()]",
			"e0 @0 row[] tasks[runs(5,1) ended(5,0,0,1)] chans[open()]",
		}},
		{"who sends goes on without any room", planWith(9, rooms(0), steps{spawn(1, 1), set(0, 4), send(0, 0)}, steps{take(0, 0), say(0)}), feed(), []string{
			"t0 @0 row[] tasks[runs()] chans[open()]",
			"t1 @0 row[] tasks[sends(4,1) runs()] chans[open(s0)]",
			"s1=4 @0 row[0] tasks[ready(4,1) runs(4,0,0,1)] chans[open()]",
			"e1 @0 row[0] tasks[ready(4,1) runs(4,0,0,1)] chans[open()]",
			"t0 @0 row[] tasks[runs(4,1) ended(4,0,0,1)] chans[open()]",
			"e0 @0 row[] tasks[runs(4,1) ended(4,0,0,1)] chans[open()]",
		}},
		{"the first of two who take", planWith(9, rooms(2), steps{spawn(1, 1), spawn(1, 1), yield(), set(0, 4), send(0, 0), say(0), send(0, 0), send(0, 0)}, steps{take(2, 0)}), feed(), []string{
			"t0 @0 row[] tasks[runs()] chans[open()]",
			"t1 @0 row[2 0] tasks[ready(0,2) runs() ready()] chans[open()]",
			"t2 @0 row[0] tasks[ready(0,2) takes() runs()] chans[open(t1)]",
			"t0 @0 row[] tasks[runs(0,2) takes() takes()] chans[open(t1 t2)]",
			"s0=4 @0 row[1] tasks[runs(4,2) ready(0,0,4,1) takes()] chans[open(t2)]",
			"e0 @0 row[1 2] tasks[runs(4,2) ready(0,0,4,1) ready(0,0,4,1)] chans[open(4)]",
			"t1 @0 row[2] tasks[ended(4,2) runs(0,0,4,1) ready(0,0,4,1)] chans[open(4)]",
			"e1 @0 row[2] tasks[ended(4,2) runs(0,0,4,1) ready(0,0,4,1)] chans[open(4)]",
			"t2 @0 row[] tasks[ended(4,2) ended(0,0,4,1) runs(0,0,4,1)] chans[open(4)]",
			"e2 @0 row[] tasks[ended(4,2) ended(0,0,4,1) runs(0,0,4,1)] chans[open(4)]",
		}},
		{"a number into the flag", planWith(9, rooms(0), steps{take(3, 0)}), feed(event(0, 0, 7), event(1, 0, 8)), []string{
			"t0 @0 row[] tasks[runs()] chans[open()]",
			"<7 @0 row[] tasks[takes()] chans[open(t0)]",
			"t0 @0 row[] tasks[runs(0,0,0,1)] chans[open()]",
			"e0 @0 row[] tasks[runs(0,0,0,1)] chans[open()]",
			"@1 @1 row[] tasks[ended(0,0,0,1)] chans[open()]",
			"<8 @1 row[] tasks[ended(0,0,0,1)] chans[open()]",
		}},
	})
}

// P10: who takes with a bound has left the line when its time has passed, and when it got something.
func TestStandOfWhoTakesForAWhile(t *testing.T) {
	patient := steps{set(0, 6), set(3, 6), takeFor(0, 0, 2)}
	wantStands(t, []standCase{
		{"an event comes too late", planWith(9, rooms(0), patient), feed(event(2, 0, 9)), []string{
			"t0 @0 row[] tasks[runs()] chans[open()]",
			"@2 @2 row[] tasks[takes(6,0,0,6)] chans[open(t0)]",
			"<9 @2 row[0] tasks[ready()] chans[open()]",
			"t0 @2 row[] tasks[runs()] chans[open(s-1)]",
			"e0 @2 row[] tasks[runs()] chans[open(s-1)]",
		}},
		{"an event comes in time", planWith(9, rooms(0), append(slices.Clone(patient), take(1, 0))), feed(event(1, 0, 9)), []string{
			"t0 @0 row[] tasks[runs()] chans[open()]",
			"@1 @1 row[] tasks[takes(6,0,0,6)] chans[open(t0)]",
			"<9 @1 row[] tasks[takes(6,0,0,6)] chans[open(t0)]",
			"t0 @1 row[] tasks[runs(9,0,0,1)] chans[open()]",
		}},
		{"from between two others", planWith(9, rooms(0), steps{spawn(1, 1), spawn(1, 2), spawn(1, 1)}, steps{take(0, 0)}, patient), feed(event(3, 0, 9)), []string{
			"t0 @0 row[] tasks[runs()] chans[open()]",
			"e0 @0 row[1 2 3] tasks[runs(0,3) ready() ready() ready()] chans[open()]",
			"t1 @0 row[2 3] tasks[ended(0,3) runs() ready() ready()] chans[open()]",
			"t2 @0 row[3] tasks[ended(0,3) takes() runs() ready()] chans[open(t1)]",
			"t3 @0 row[] tasks[ended(0,3) takes() takes(6,0,0,6) runs()] chans[open(t1 t2)]",
			"@2 @2 row[] tasks[ended(0,3) takes() takes(6,0,0,6) takes()] chans[open(t1 t2 t3)]",
			"t2 @2 row[] tasks[ended(0,3) takes() runs() takes()] chans[open(t1 t3)]",
			"e2 @2 row[] tasks[ended(0,3) takes() runs() takes()] chans[open(t1 t3)]",
			"@3 @3 row[] tasks[ended(0,3) takes() ended() takes()] chans[open(t1 t3)]",
			"<9 @3 row[] tasks[ended(0,3) takes() ended() takes()] chans[open(t1 t3)]",
			"t1 @3 row[] tasks[ended(0,3) runs(9,0,0,1) ended() takes()] chans[open(t3)]",
			"e1 @3 row[] tasks[ended(0,3) runs(9,0,0,1) ended() takes()] chans[open(t3)]",
		}},
		{"for no time at all", planWith(9, rooms(0), steps{set(0, 6), set(3, 6), takeFor(0, 0, 0), say(0)}), feed(event(0, 0, 9)), []string{
			"t0 @0 row[] tasks[runs()] chans[open()]",
			"s0=0 @0 row[] tasks[runs()] chans[open()]",
			"e0 @0 row[] tasks[runs()] chans[open()]",
			"<9 @0 row[] tasks[ended()] chans[open()]",
		}},
	})
}

// P10: a pick stands in two lines, and has left the other one when it got something.
func TestStandOfPicks(t *testing.T) {
	picker := steps{spawn(2, 1), pick(0, 0, 1)}
	wantStands(t, []standCase{
		{"it comes by the second", planWith(9, rooms(0, 0), picker, steps{set(0, 5), send(0, 1), say(0)}), feed(), []string{
			"t0 @0 row[] tasks[runs()] chans[open() open()]",
			"t1 @0 row[] tasks[takes(0,0,1) runs()] chans[open(t0) open(t0)]",
			"s1=5 @0 row[0] tasks[ready(5,0,1,2) runs(5)] chans[open() open()]",
			"e1 @0 row[0] tasks[ready(5,0,1,2) runs(5)] chans[open() open()]",
			"t0 @0 row[] tasks[runs(5,0,1,2) ended(5)] chans[open() open()]",
			"e0 @0 row[] tasks[runs(5,0,1,2) ended(5)] chans[open() open()]",
		}},
		{"it comes by the first", planWith(9, rooms(0, 0), picker, steps{set(0, 5), send(0, 0), send(0, 1)}), feed(), []string{
			"t0 @0 row[] tasks[runs()] chans[open() open()]",
			"t1 @0 row[] tasks[takes(0,0,1) runs()] chans[open(t0) open(t0)]",
			"t0 @0 row[] tasks[runs(5,0,1,1) sends(5)] chans[open() open(s1)]",
			"e0 @0 row[] tasks[runs(5,0,1,1) sends(5)] chans[open() open(s1)]",
		}},
		{"events by both", planWith(9, rooms(0, 0), steps{pick(0, 1, 0)}), feed(event(0, 0, 8), event(0, 1, 9)), []string{
			"t0 @0 row[] tasks[runs()] chans[open() open()]",
			"<8 @0 row[] tasks[takes()] chans[open(t0) open(t0)]",
			"<9 @0 row[0] tasks[ready(8,0,0,2)] chans[open() open()]",
			"t0 @0 row[] tasks[runs(8,0,0,2)] chans[open() open(s-1)]",
			"e0 @0 row[] tasks[runs(8,0,0,2)] chans[open() open(s-1)]",
		}},
		{"between others in both lines", planWith(9, rooms(0, 0), steps{spawn(0, 1), spawn(0, 2), spawn(0, 3)}, steps{pick(0, 0, 1)}, steps{take(0, 0)}, steps{pick(0, 1, 0)}), feed(event(0, 1, 7), event(0, 0, 8), event(0, 0, 9)), []string{
			"t0 @0 row[] tasks[runs()] chans[open() open()]",
			"e0 @0 row[1 2 3] tasks[runs(3) ready() ready() ready()] chans[open() open()]",
			"t1 @0 row[2 3] tasks[ended(3) runs() ready() ready()] chans[open() open()]",
			"t2 @0 row[3] tasks[ended(3) takes() runs() ready()] chans[open(t1) open(t1)]",
			"t3 @0 row[] tasks[ended(3) takes() takes() runs()] chans[open(t1 t2) open(t1)]",
			"<7 @0 row[] tasks[ended(3) takes() takes() takes()] chans[open(t1 t2 t3) open(t1 t3)]",
			"<8 @0 row[1] tasks[ended(3) ready(7,0,0,2) takes() takes()] chans[open(t2 t3) open(t3)]",
			"<9 @0 row[1 2] tasks[ended(3) ready(7,0,0,2) ready(8,0,0,1) takes()] chans[open(t3) open(t3)]",
			"t1 @0 row[2 3] tasks[ended(3) runs(7,0,0,2) ready(8,0,0,1) ready(9,0,0,2)] chans[open() open()]",
			"e1 @0 row[2 3] tasks[ended(3) runs(7,0,0,2) ready(8,0,0,1) ready(9,0,0,2)] chans[open() open()]",
			"t2 @0 row[3] tasks[ended(3) ended(7,0,0,2) runs(8,0,0,1) ready(9,0,0,2)] chans[open() open()]",
			"e2 @0 row[3] tasks[ended(3) ended(7,0,0,2) runs(8,0,0,1) ready(9,0,0,2)] chans[open() open()]",
			"t3 @0 row[] tasks[ended(3) ended(7,0,0,2) ended(8,0,0,1) runs(9,0,0,2)] chans[open() open()]",
			"e3 @0 row[] tasks[ended(3) ended(7,0,0,2) ended(8,0,0,1) runs(9,0,0,2)] chans[open() open()]",
		}},
		{"the same one twice: once in its line", planWith(9, rooms(0), steps{pick(0, 0, 0)}), feed(event(0, 0, 8), event(0, 0, 9)), []string{
			"t0 @0 row[] tasks[runs()] chans[open()]",
			"<8 @0 row[] tasks[takes()] chans[open(t0)]",
			"<9 @0 row[0] tasks[ready(8,0,0,1)] chans[open()]",
			"t0 @0 row[] tasks[runs(8,0,0,1)] chans[open(s-1)]",
			"e0 @0 row[] tasks[runs(8,0,0,1)] chans[open(s-1)]",
		}},
		{"one was closed before", planWith(9, rooms(0, 0), steps{shut(0), pick(0, 0, 1)}), feed(event(0, 0, 8), event(0, 1, 9)), []string{
			"t0 @0 row[] tasks[runs()] chans[open() open()]",
			"<8 @0 row[] tasks[takes()] chans[shut() open(t0)]",
			"<9 @0 row[] tasks[takes()] chans[shut() open(t0)]",
			"t0 @0 row[] tasks[runs(9,0,0,2)] chans[shut() open()]",
			"e0 @0 row[] tasks[runs(9,0,0,2)] chans[shut() open()]",
		}},
		{"one is closed meanwhile, then the other", planWith(9, rooms(0, 0), steps{spawn(0, 1), yield(), shut(0), say(0), shut(1), say(1)}, steps{set(0, 5), set(3, 9), pick(0, 0, 1)}), feed(), []string{
			"t0 @0 row[] tasks[runs()] chans[open() open()]",
			"t1 @0 row[0] tasks[ready(1) runs()] chans[open() open()]",
			"t0 @0 row[] tasks[runs(1) takes(5,0,0,9)] chans[open(t1) open(t1)]",
			"s0=1 @0 row[] tasks[runs(1) takes(5,0,0,9)] chans[shut() open(t1)]",
			"s0=0 @0 row[1] tasks[runs(1) ready()] chans[shut() shut()]",
			"e0 @0 row[1] tasks[runs(1) ready()] chans[shut() shut()]",
			"t1 @0 row[] tasks[ended(1) runs()] chans[shut() shut()]",
			"e1 @0 row[] tasks[ended(1) runs()] chans[shut() shut()]",
		}},
		{"the second is closed meanwhile, and it comes by the first", planWith(9, rooms(0, 0), steps{spawn(0, 1), yield(), shut(1)}, steps{pick(0, 0, 1)}), feed(event(0, 0, 4)), []string{
			"t0 @0 row[] tasks[runs()] chans[open() open()]",
			"t1 @0 row[0] tasks[ready(1) runs()] chans[open() open()]",
			"t0 @0 row[] tasks[runs(1) takes()] chans[open(t1) open(t1)]",
			"e0 @0 row[] tasks[runs(1) takes()] chans[open(t1) shut()]",
			"<4 @0 row[] tasks[ended(1) takes()] chans[open(t1) shut()]",
			"t1 @0 row[] tasks[ended(1) runs(4,0,0,1)] chans[open() shut()]",
			"e1 @0 row[] tasks[ended(1) runs(4,0,0,1)] chans[open() shut()]",
		}},
	})
}

// P10: at a failure that a BClose makes the channel is closed already, and its lines are empty; those behind are as they were.
func TestStandAtClose(t *testing.T) {
	wantStands(t, []standCase{
		{"several fail, one record each", planWith(9, rooms(1), steps{spawn(0, 1), spawn(0, 1), spawn(0, 2), yield(), shut(0), say(0)}, steps{add(0, 0, 8), send(0, 0), send(0, 0)}, steps{set(0, 1), wait(0)}), feed(), []string{
			"t0 @0 row[] tasks[runs()] chans[open()]",
			"t1 @0 row[2 3 0] tasks[ready(3) runs() ready() ready()] chans[open()]",
			"t2 @0 row[3 0] tasks[ready(3) sends(8) runs() ready()] chans[open(8 s1)]",
			"t3 @0 row[0] tasks[ready(3) sends(8) sends(8) runs()] chans[open(8 s1 s2)]",
			"t0 @0 row[] tasks[runs(3) sends(8) sends(8) waits(1)] chans[open(8 s1 s2)]",
			"f1=4 @0 row[] tasks[runs(3) sends(8) sends(8) waits(1)] chans[shut(8)]",
			"f2=4 @0 row[3] tasks[runs(3) failed(8) sends(8) ready()] chans[shut(8)]",
			"s0=3 @0 row[3] tasks[runs(3) failed(8) failed(8) ready()] chans[shut(8)]",
			"e0 @0 row[3] tasks[runs(3) failed(8) failed(8) ready()] chans[shut(8)]",
			"t3 @0 row[] tasks[ended(3) failed(8) failed(8) runs()] chans[shut(8)]",
			"e3 @0 row[] tasks[ended(3) failed(8) failed(8) runs()] chans[shut(8)]",
		}},
		{"those who take get nothing, in order, at another channel all stays", planWith(9, rooms(0, 0), steps{spawn(0, 1), spawn(0, 2), spawn(0, 3), yield(), shut(0), say(0)}, steps{set(3, 5), take(0, 0)}, steps{set(3, 5), take(0, 1)}, steps{set(3, 5), takeFor(0, 0, 9)}), withTicks(14), []string{
			"t0 @0 row[] tasks[runs()] chans[open() open()]",
			"t1 @0 row[2 3 0] tasks[ready(3) runs() ready() ready()] chans[open() open()]",
			"t2 @0 row[3 0] tasks[ready(3) takes(0,0,0,5) runs() ready()] chans[open(t1) open()]",
			"t3 @0 row[0] tasks[ready(3) takes(0,0,0,5) takes(0,0,0,5) runs()] chans[open(t1) open(t2)]",
			"t0 @0 row[] tasks[runs(3) takes(0,0,0,5) takes(0,0,0,5) takes(0,0,0,5)] chans[open(t1 t3) open(t2)]",
			"s0=3 @0 row[1 3] tasks[runs(3) ready() takes(0,0,0,5) ready()] chans[shut() open(t2)]",
			"e0 @0 row[1 3] tasks[runs(3) ready() takes(0,0,0,5) ready()] chans[shut() open(t2)]",
			"t1 @0 row[3] tasks[ended(3) runs() takes(0,0,0,5) ready()] chans[shut() open(t2)]",
			"e1 @0 row[3] tasks[ended(3) runs() takes(0,0,0,5) ready()] chans[shut() open(t2)]",
			"t3 @0 row[] tasks[ended(3) ended() takes(0,0,0,5) runs()] chans[shut() open(t2)]",
			"e3 @0 row[] tasks[ended(3) ended() takes(0,0,0,5) runs()] chans[shut() open(t2)]",
		}},
		{"the world outside ahead of a task and behind it, dropped when it is closed", planWith(9, rooms(0), steps{spawn(0, 1), set(1, 1), sleep(1), shut(0), say(0)}, steps{sleep(1), set(0, 7), send(0, 0)}), feed(event(0, 0, 5), event(1, 0, 6), event(2, 0, 4), event(2, 0, 3)), []string{
			"t0 @0 row[] tasks[runs()] chans[open()]",
			"t1 @0 row[] tasks[asleep(1,1) runs()] chans[open()]",
			"<5 @0 row[1] tasks[asleep(1,1) ready()] chans[open()]",
			"t1 @0 row[] tasks[asleep(1,1) runs()] chans[open(s-1)]",
			"@1 @1 row[] tasks[asleep(1,1) sends(7)] chans[open(s-1 s1)]",
			"<6 @1 row[0] tasks[ready(1,1) sends(7)] chans[open(s-1 s1)]",
			"t0 @1 row[] tasks[runs(1,1) sends(7)] chans[open(s-1 s1 s-1)]",
			"f1=4 @1 row[] tasks[runs(1,1) sends(7)] chans[shut()]",
			"s0=1 @1 row[] tasks[runs(1,1) failed(7)] chans[shut()]",
			"e0 @1 row[] tasks[runs(1,1) failed(7)] chans[shut()]",
			"@2 @2 row[] tasks[ended(1,1) failed(7)] chans[shut()]",
			"<4 @2 row[] tasks[ended(1,1) failed(7)] chans[shut()]",
			"<3 @2 row[] tasks[ended(1,1) failed(7)] chans[shut()]",
		}},
		{"the world outside goes on as a task does", planWith(9, rooms(1), steps{spawn(1, 1), sleep(1), take(0, 0), say(0), take(0, 0), say(0), take(0, 0)}, steps{send(1, 0), set(1, 7), send(1, 0)}), feed(event(0, 0, 5), event(0, 0, 6)), []string{
			"t0 @0 row[] tasks[runs()] chans[open()]",
			"t1 @0 row[] tasks[asleep(0,1) runs()] chans[open()]",
			"<5 @0 row[] tasks[asleep(0,1) sends(0,7)] chans[open(0 s1)]",
			"<6 @0 row[] tasks[asleep(0,1) sends(0,7)] chans[open(0 s1 s-1)]",
			"@1 @1 row[] tasks[asleep(0,1) sends(0,7)] chans[open(0 s1 s-1 s-1)]",
			"t0 @1 row[] tasks[runs(0,1) sends(0,7)] chans[open(0 s1 s-1 s-1)]",
			"s0=0 @1 row[1] tasks[runs(0,1,0,1) ready(0,7)] chans[open(7 s-1 s-1)]",
			"s0=7 @1 row[1] tasks[runs(7,1,0,1) ready(0,7)] chans[open(5 s-1)]",
			"e0 @1 row[1] tasks[runs(5,1,0,1) ready(0,7)] chans[open(6)]",
			"t1 @1 row[] tasks[ended(5,1,0,1) runs(0,7)] chans[open(6)]",
			"e1 @1 row[] tasks[ended(5,1,0,1) runs(0,7)] chans[open(6)]",
		}},
	})
}

// P10: the zero value where there is no such record, or no run at all.
func TestStandWhereThereIsNone(t *testing.T) {
	p, in := planWith(9, rooms(1), steps{set(0, 7), send(0, 0), say(0)}), feed(event(3, 0, 9))
	far := []int{math.MinInt, math.MinInt + 1, math.MinInt32, -1 << 32, -7, -1, 5, 6, 7, 100, 5000, math.MaxInt32, 1 << 32, 1<<32 + 1, math.MaxInt - 1, math.MaxInt}
	for _, k := range far {
		if got := toldStand(impl.StandAt(p, in, k)); got != "none" {
			t.Errorf("record %d: %s", k, got)
		}
	}
	for k := range 5 {
		if s := impl.StandAt(p, in, k); !s.Ok {
			t.Errorf("record %d: %s", k, toldStand(s))
		}
	}
	for _, c := range notValid() {
		for _, k := range append(slices.Clone(far), 0, 1, 2, 3, 4) {
			if got := toldStand(impl.StandAt(c.p, c.in, k)); got != "none" {
				t.Errorf("%s: record %d: %s", c.name, k, got)
			}
		}
	}
}
