package tests

import (
	"testing"

	"loop.example/beat/impl"
)

func until(end int64, events ...impl.Event) impl.Input {
	return impl.Input{Feed: events, Ticks: 1000, Until: end}
}

// P2, P4: sleeping, and how far time goes.
func TestRunSleep(t *testing.T) {
	long := func(n int64) steps { return steps{set(0, n), sleep(0)} }
	wantRuns(t, []runCase{
		{"a sleep of 0", planWith(9, nil, steps{set(0, 0), sleep(0), say(0)}), feed(), "0: t0 t0 s0=0 e0 | 0 3 | 6"},
		{"a sleep of 0 is longer than who is ready", planWith(9, nil, steps{spawn(1, 1), sleep(0), say(0)}, steps{yield(), yield(), say(0)}), feed(), "0: t0 t1 t1 t1 s1=0 e1 t0 s0=0 e0 | 0 6 | 6 6"},
		{"a sleep of 1", planWith(9, nil, steps{set(0, 1), sleep(0), say(0)}), feed(), "0: t0 @1 t0 s0=1 e0 | 1 3 | 6"},
		{"the time", planWith(9, nil, steps{now(1), say(1), set(0, 3), sleep(0), now(0), say(0), now(3), say(3)}), feed(), "0: t0 s0=0 @3 t0 s0=3 s0=3 e0 | 3 8 | 6"},
		{"up to Until", planWith(9, nil, long(5)), until(5), "0: t0 @5 t0 e0 | 5 2 | 6"},
		{"behind Until", planWith(9, nil, long(6)), until(5), "4: t0 | 0 2 | 2"},
		{"a sleep of 0 at Until 0", planWith(9, nil, long(0)), until(0), "0: t0 t0 e0 | 0 2 | 6"},
		{"a sleep of 1 at Until 0", planWith(9, nil, long(1)), until(0), "4: t0 | 0 2 | 2"},
		{"the longest sleep", planWith(9, nil, long(1000000)), until(1000000), "0: t0 @1000000 t0 e0 | 1000000 2 | 6"},
		{"the longest sleep from a later time", planWith(9, nil, append(long(1), long(1000000)...)), until(1000000), "4: t0 @1 t0 | 1 4 | 2"},
		{"who is due first, asked last", planWith(9, nil, steps{spawn(1, 1), set(0, 5), sleep(0)}, long(2)), feed(), "0: t0 t1 @2 t1 e1 @5 t0 e0 | 5 5 | 6 6"},
		{"due at one time, in the order of asking", planWith(9, nil, steps{spawn(1, 1), yield(), set(0, 5), sleep(0)}, long(5)), feed(), "0: t0 t1 t0 @5 t1 e1 t0 e0 | 5 6 | 6 6"},
		{"due at one time, asked at two", planWith(9, nil, steps{spawn(1, 1), set(0, 3), sleep(0), set(0, 2), sleep(0)}, long(5)), feed(), "0: t0 t1 @3 t0 @5 t1 e1 t0 e0 | 5 7 | 6 6"},
		{"one is behind Until, one is not", planWith(9, nil, steps{spawn(1, 1), set(0, 50), sleep(0)}, long(2)), until(10), "4: t0 t1 @2 t1 e1 | 2 5 | 2 6"},
		{"who sleeps is no standstill", planWith(9, rooms(0), steps{spawn(1, 1), take(0, 0)}, long(60)), until(59), "4: t0 t1 | 0 4 | 5 2"},
		{"a standstill when nobody sleeps any more", planWith(9, rooms(0), steps{spawn(1, 1), take(0, 0)}, long(60)), until(60), "1: t0 t1 @60 t1 e1 | 60 4 | 5 6"},
	})
}

// P2: taking with a bound.
func TestRunFor(t *testing.T) {
	with := func(more ...impl.Step) steps { return append(steps{set(0, 7), set(3, 7)}, more...) }
	wantRuns(t, []runCase{
		{"N 0 and nothing there", planWith(9, rooms(0), with(gotten(takeFor(0, 0, 0))...)), feed(), "0: t0 s0=0 s0=0 e0 | 0 5 | 6"},
		{"N 0 and a number", planWith(9, rooms(1), append(steps{set(0, 4), send(0, 0)}, gotten(takeFor(0, 0, 0))...)), feed(), "0: t0 s0=4 s0=1 e0 | 0 5 | 6"},
		{"N 0 and one who sends", planWith(9, rooms(0), append(steps{spawn(0, 1), yield()}, gotten(takeFor(0, 0, 0))...), steps{set(0, 4), send(0, 0)}), feed(), "0: t0 t1 t0 s0=4 s0=1 e0 t1 e1 | 0 7 | 6 6"},
		{"N 0 does not wait for an event", planWith(9, rooms(1), gotten(takeFor(0, 0, 0))), feed(event(0, 0, 5)), "0: t0 s0=0 s0=0 e0 <5 | 0 3 | 6"},
		{"N 1 waits for an event of now", planWith(9, rooms(1), gotten(takeFor(0, 0, 1))), feed(event(0, 0, 5)), "0: t0 <5 t0 s0=5 s0=1 e0 | 0 3 | 6"},
		{"nothing comes", planWith(9, rooms(0), with(gotten(takeFor(0, 0, 4))...)), feed(), "0: t0 @4 t0 s0=0 s0=0 e0 | 4 5 | 6"},
		{"nothing, into the flag", planWith(9, rooms(0), steps{set(3, 7), takeFor(3, 0, 4), say(3)}), feed(), "0: t0 @4 t0 s0=0 e0 | 4 3 | 6"},
		{"a number, into the flag", planWith(9, rooms(0), steps{set(3, 7), takeFor(3, 0, 4), say(3)}), feed(event(3, 0, 9)), "0: t0 @3 <9 t0 s0=1 e0 | 3 3 | 6"},
		{"a number one before the end", planWith(9, rooms(0), gotten(takeFor(0, 0, 4))), feed(event(3, 0, 9)), "0: t0 @3 <9 t0 s0=9 s0=1 e0 | 3 3 | 6"},
		{"a number at the end is too late", planWith(9, rooms(1), gotten(takeFor(0, 0, 4))), feed(event(4, 0, 9)), "0: t0 @4 <9 t0 s0=0 s0=0 e0 | 4 3 | 6"},
		{"who was late is not in the line", planWith(9, rooms(0), append(gotten(takeFor(0, 0, 4)), gotten(take(0, 0))...)), feed(event(4, 0, 8), event(5, 0, 9)), "0: t0 @4 <8 t0 s0=0 s0=0 s0=8 s0=1 e0 @5 <9 | 5 6 | 6"},
		{"who got something is due no more", planWith(9, rooms(0), append(gotten(takeFor(0, 0, 4)), take(0, 0))), feed(event(3, 0, 9)), "1: t0 @3 <9 t0 s0=9 s0=1 | 3 4 | 5"},
		{"who got something from a task is due no more", planWith(9, rooms(0), append(steps{spawn(1, 1)}, append(gotten(takeFor(0, 0, 4)), take(0, 0))...), steps{set(0, 6), send(0, 0)}), feed(), "1: t0 t1 e1 t0 s0=6 s0=1 | 0 7 | 5 6"},
		{"the longest", planWith(9, rooms(0), steps{takeFor(0, 0, 1000000)}), until(1000000), "0: t0 @1000000 t0 e0 | 1000000 1 | 6"},
		{"the longest behind Until", planWith(9, rooms(0), steps{takeFor(0, 0, 1000000)}), until(999999), "4: t0 | 0 1 | 5"},
		{"two at one time, who takes asked first", planWith(9, rooms(0), steps{spawn(1, 1), takeFor(0, 0, 3), now(0), say(0)}, steps{set(0, 3), sleep(0), say(0)}), feed(), "0: t0 t1 @3 t0 s0=3 e0 t1 s1=3 e1 | 3 7 | 6 6"},
		{"two at one time, who sleeps asked first", planWith(9, rooms(0), steps{spawn(1, 1), yield(), takeFor(0, 0, 3), say(0)}, steps{set(0, 3), sleep(0), say(0)}), feed(), "0: t0 t1 t0 @3 t1 s1=3 e1 t0 s0=0 e0 | 3 7 | 6 6"},
		{"the line is kept without who was late", planWith(9, rooms(0), steps{spawn(1, 1), spawn(1, 2), spawn(1, 3)}, gotten(take(0, 0)), gotten(takeFor(0, 0, 2)), gotten(take(0, 0))), feed(event(3, 0, 8), event(3, 0, 9)),
			"0: t0 e0 t1 t2 t3 @2 t2 s2=0 s2=0 e2 @3 <8 <9 t1 s1=8 s1=1 e1 t3 s3=9 s3=1 e3 | 3 12 | 6 6 6 6"},
	})
}

// P2: what comes from outside.
func TestRunFeed(t *testing.T) {
	wantRuns(t, []runCase{
		{"at time 0", planWith(9, rooms(0), gotten(take(0, 0))), feed(event(0, 0, -9)), "0: t0 <-9 t0 s0=-9 s0=1 e0 | 0 3 | 6"},
		{"comes when nobody is ready", planWith(9, rooms(1), steps{yield(), takeFor(0, 0, 0), say(3)}), feed(event(0, 0, 9)), "0: t0 t0 s0=0 e0 <9 | 0 3 | 6"},
		{"when all are over", planWith(9, rooms(1), steps{}), feed(event(2, 0, 9), event(2, 0, 8), event(4, 0, 7)), "0: t0 e0 @2 <9 <8 @4 <7 | 4 0 | 6"},
		{"at Until", planWith(9, rooms(0), steps{take(0, 0)}), until(7, event(7, 0, 9)), "0: t0 @7 <9 t0 e0 | 7 1 | 6"},
		{"behind Until", planWith(9, rooms(0), steps{take(0, 0)}), until(6, event(7, 0, 9)), "4: t0 | 0 1 | 5"},
		{"at Until 0", planWith(9, rooms(0), steps{take(0, 0)}), until(0, event(0, 0, 9)), "0: t0 <9 t0 e0 | 0 1 | 6"},
		{"the last time", planWith(9, rooms(0), steps{take(0, 0)}), until(1000000, event(1000000, 0, 9)), "0: t0 @1000000 <9 t0 e0 | 1000000 1 | 6"},
		// The words allow Code 0 too, as all tasks are over; what ended the run is that the next thing is behind Until.
		{"behind Until when all are over", planWith(9, rooms(0), steps{}), until(6, event(5, 0, 8), event(7, 0, 9)), "4: t0 e0 @5 <8 | 5 0 | 6"},
		{"waits in the line, in order", planWith(20, rooms(1), steps{set(0, 2), sleep(0), take(0, 0), say(0), take(0, 0), say(0), take(0, 0), say(0), say(3)}), feed(event(1, 0, 5), event(1, 0, 6), event(1, 0, 7)), "0: t0 @1 <5 <6 <7 @2 t0 s0=5 s0=6 s0=7 s0=1 e0 | 2 9 | 6"},
		{"waits behind a task", planWith(20, rooms(0), steps{spawn(1, 1), set(0, 8), send(0, 0), say(0)}, steps{set(0, 2), sleep(0), take(0, 0), say(0), take(0, 0), say(0)}), feed(event(1, 0, 5)), "0: t0 t1 @1 <5 @2 t1 s1=8 s1=5 e1 t0 s0=8 e0 | 2 10 | 6 6"},
		{"waits ahead of a task", planWith(20, rooms(0), steps{spawn(1, 1), set(0, 1), sleep(0), set(0, 8), send(0, 0)}, steps{set(0, 2), sleep(0), take(0, 0), say(0), take(0, 0), say(0)}), feed(event(0, 0, 5)), "0: t0 t1 <5 @1 t0 @2 t1 s1=5 s1=8 e1 t0 e0 | 2 11 | 6 6"},
		{"waits, and nobody takes it: no standstill", planWith(20, rooms(0), steps{}), feed(event(1, 0, 5)), "0: t0 e0 @1 <5 | 1 0 | 6"},
		{"into a closed channel", planWith(20, rooms(1), steps{shut(0)}), feed(event(1, 0, 5)), "0: t0 e0 @1 <5 | 1 1 | 6"},
		{"dropped by a closed channel", planWith(20, rooms(1), steps{shut(0), set(0, 2), sleep(0), take(0, 0), say(0), say(3)}), feed(event(1, 0, 5)), "0: t0 @1 <5 @2 t0 s0=0 s0=0 e0 | 2 6 | 6"},
		{"closed when it waits", planWith(20, rooms(0), steps{set(0, 2), sleep(0), shut(0), take(0, 0), say(0), say(3)}), feed(event(1, 0, 5)), "0: t0 @1 <5 @2 t0 s0=0 s0=0 e0 | 2 6 | 6"},
		{"closed when it waits between tasks", planWith(20, rooms(0), steps{spawn(0, 1), set(0, 2), sleep(0), spawn(0, 1), yield(), shut(0)}, steps{send(0, 0)}), feed(event(1, 0, 5)), "0: t0 t1 @1 <5 @2 t0 t2 t0 f1=4 f2=4 e0 | 2 8 | 6 7 7"},
		{"behind those who are due", planWith(20, rooms(0), steps{spawn(1, 1), yield(), sleep(0), say(0)}, steps{take(0, 0), say(0)}), feed(event(0, 0, 9)), "0: t0 t1 t0 <9 t0 s0=0 e0 t1 s1=9 e1 | 0 6 | 6 6"},
		{"the same number twice", planWith(20, rooms(0), gotten(take(0, 0), take(1, 0))), feed(event(3, 0, 9), event(3, 0, 9)), "0: t0 @3 <9 <9 t0 s0=9 s0=1 e0 | 3 4 | 6"},
		{"a standstill when no event is left", planWith(20, rooms(0, 0), steps{take(0, 0), take(0, 0)}), feed(event(3, 0, 9), event(5, 1, 9)), "1: t0 @3 <9 t0 @5 <9 | 5 2 | 5"},
	})
}
