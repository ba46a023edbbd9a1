package tests

import (
	"slices"
	"testing"

	"loop.example/beat/impl"
)

// gotten says what a task got into register 0, and the flag.
func gotten(how ...impl.Step) steps {
	return append(slices.Clone(how), say(0), say(3))
}

// P2: lines of those who send and who take, and room.
func TestRunChannels(t *testing.T) {
	sendOne := func(n int64) steps { return steps{set(0, n), send(0, 0), say(0)} }
	three := steps{spawn(1, 1), spawn(1, 2), spawn(1, 3), yield(), take(0, 0), say(0), take(0, 0), say(0), take(0, 0), say(0)}
	ten := slices.Repeat(steps{send(0, 0)}, 10)
	wantRuns(t, []runCase{
		{"room 0", planWith(9, rooms(0), steps{send(0, 0)}), feed(), "1: t0 | 0 1 | 4"},
		{"room 1 met", planWith(9, rooms(1), steps{send(0, 0)}), feed(), "0: t0 e0 | 0 1 | 6"},
		{"room 1 passed", planWith(9, rooms(1), steps{send(0, 0), send(0, 0)}), feed(), "1: t0 | 0 2 | 4"},
		{"room 10 met", planWith(20, rooms(10), ten), feed(), "0: t0 e0 | 0 10 | 6"},
		{"room 10 passed", planWith(20, rooms(10), append(slices.Clone(ten), send(0, 0))), feed(), "1: t0 | 0 11 | 4"},
		{"channels have rooms of their own", planWith(9, rooms(0, 1, 0), steps{send(0, 1), take(1, 1), send(0, 1), send(0, 2)}), feed(), "1: t0 | 0 4 | 4"},
		{"an empty one", planWith(9, rooms(5), steps{take(0, 0)}), feed(), "1: t0 | 0 1 | 5"},
		{"what one sends oneself", planWith(20, rooms(2), append(steps{set(0, 4), send(0, 0), set(0, 5), send(0, 0)}, append(gotten(take(0, 0)), gotten(take(0, 0))...)...)), feed(), "0: t0 s0=4 s0=1 s0=5 s0=1 e0 | 0 10 | 6"},
		{"the first of those who take", planWith(100, rooms(0), steps{spawn(1, 1), spawn(1, 1), yield(), set(0, 4), send(0, 0), set(0, 5), send(0, 0)}, gotten(take(0, 0))), feed(), "0: t0 t1 t2 t0 e0 t1 s1=4 s1=1 e1 t2 s2=5 s2=1 e2 | 0 13 | 6 6 6"},
		{"who takes comes ahead of room", planWith(100, rooms(1), steps{spawn(1, 1), yield(), set(0, 4), send(0, 0), set(0, 5), send(0, 0), set(0, 6), send(0, 0)}, gotten(take(0, 0))), feed(), "1: t0 t1 t0 t1 s1=4 s1=1 e1 | 0 11 | 4 6"},
		{"those who send, room 1", planWith(100, rooms(1), three, sendOne(1), sendOne(2), sendOne(3)), feed(), "0: t0 t1 s1=1 e1 t2 t3 t0 s0=1 s0=2 s0=3 e0 t2 s2=2 e2 t3 s3=3 e3 | 0 19 | 6 6 6 6"},
		{"those who send, room 0", planWith(100, rooms(0), three, sendOne(1), sendOne(2), sendOne(3)), feed(), "0: t0 t1 t2 t3 t0 s0=1 s0=2 s0=3 e0 t1 s1=1 e1 t2 s2=2 e2 t3 s3=3 e3 | 0 19 | 6 6 6 6"},
		{"who sends goes on once there is room", planWith(100, rooms(1), steps{spawn(1, 1), yield(), take(0, 0), yield(), take(0, 0), say(0)}, steps{set(0, 1), send(0, 0), set(0, 2), send(0, 0), set(0, 3), send(0, 0)}), feed(), "0: t0 t1 t0 t1 t0 s0=2 e0 t1 e1 | 0 12 | 6 6"},
		{"what was sent stays when the register changes", planWith(100, rooms(1), steps{set(0, 4), send(0, 0), set(0, 9), take(1, 0), say(1)}), feed(), "0: t0 s0=4 e0 | 0 5 | 6"},
		{"sent from the flag", planWith(100, rooms(1), steps{set(3, 4), send(3, 0), take(1, 0), say(1)}), feed(), "0: t0 s0=4 e0 | 0 4 | 6"},
		{"taken into the flag at once", planWith(100, rooms(1), steps{set(0, 4), send(0, 0), take(3, 0), say(3)}), feed(), "0: t0 s0=1 e0 | 0 4 | 6"},
		{"taken into the flag when one has waited", planWith(100, rooms(0), steps{spawn(0, 1), take(3, 0), say(3)}, steps{set(0, 4), send(0, 0)}), feed(), "0: t0 t1 e1 t0 s0=1 e0 | 0 5 | 6 6"},
		{"a send leaves the flag", planWith(100, rooms(1), steps{set(3, 9), send(0, 0), say(3)}), feed(), "0: t0 s0=9 e0 | 0 3 | 6"},
	})
}

// P2: what a closed channel does, and closing one.
func TestRunClose(t *testing.T) {
	after := func(more ...impl.Step) steps { return append(steps{set(0, 7), set(3, 7)}, more...) }
	wantRuns(t, []runCase{
		{"to close a closed one", planWith(9, rooms(0), steps{shut(0), shut(0), say(0)}), feed(), "0: t0 f0=5 | 0 2 | 7"},
		{"to close another one", planWith(9, rooms(0, 0), steps{shut(0), shut(1)}), feed(), "0: t0 e0 | 0 2 | 6"},
		{"to send into a closed one", planWith(9, rooms(3), steps{shut(0), send(0, 0), say(0)}), feed(), "0: t0 f0=4 | 0 2 | 7"},
		{"to take from a closed one", planWith(9, rooms(3), after(append(steps{shut(0)}, gotten(take(0, 0))...)...)), feed(), "0: t0 s0=0 s0=0 e0 | 0 6 | 6"},
		{"with a bound, from a closed one", planWith(9, rooms(3), after(append(steps{shut(0)}, gotten(takeFor(0, 0, 5))...)...)), feed(), "0: t0 s0=0 s0=0 e0 | 0 6 | 6"},
		{"what is in it can be taken", planWith(20, rooms(3), steps{set(0, 4), send(0, 0), set(0, 5), send(0, 0), shut(0), take(0, 0), say(0), takeFor(0, 0, 0), say(0), say(3), take(0, 0), say(3)}), feed(), "0: t0 s0=4 s0=5 s0=1 s0=0 e0 | 0 12 | 6"},
		{"who sends fails, in order", planWith(20, rooms(1), steps{spawn(0, 1), spawn(0, 1), spawn(0, 1), yield(), shut(0), take(0, 0), say(0), take(0, 0), say(3)}, steps{add(0, 0, 8), send(0, 0), send(0, 0)}), feed(), "0: t0 t1 t2 t3 t0 f1=4 f2=4 f3=4 s0=8 s0=0 e0 | 0 16 | 6 7 7 7"},
		{"who waits for who fails so is ready ahead of those of the next one", planWith(20, rooms(0),
			steps{spawn(0, 1), spawn(0, 1), spawn(0, 2), spawn(0, 3), yield(), shut(0)}, steps{send(0, 0)}, steps{set(0, 2), wait(0), say(3)}, steps{set(0, 1), wait(0), say(3)}), feed(),
			"0: t0 t1 t2 t3 t4 t0 f1=4 f2=4 e0 t4 s4=0 e4 t3 s3=0 e3 | 0 14 | 6 7 7 6 6"},
		{"who takes gets nothing, in order", planWith(20, rooms(1), steps{spawn(0, 1), spawn(0, 2), spawn(0, 1), yield(), shut(0), say(3)}, after(gotten(take(0, 0))...), after(gotten(takeFor(0, 0, 50))...)), feed(),
			"0: t0 t1 t2 t3 t0 s0=0 e0 t1 s1=0 s1=0 e1 t2 s2=0 s2=0 e2 t3 s3=0 s3=0 e3 | 0 21 | 6 6 6 6"},
		{"who got nothing is due no more", planWith(20, rooms(1, 0), steps{spawn(0, 1), yield(), shut(0)}, steps{takeFor(0, 0, 5), take(0, 1)}), feed(), "1: t0 t1 t0 e0 t1 | 0 5 | 6 5"},
		{"at another channel all stays", planWith(20, rooms(0, 0, 0), steps{spawn(0, 1), spawn(0, 2), yield(), shut(2)}, steps{send(0, 0)}, steps{take(0, 1)}), feed(), "1: t0 t1 t2 t0 e0 | 0 6 | 6 4 5"},
		{"taken into the flag, nothing", planWith(20, rooms(0), steps{set(3, 9), shut(0), take(3, 0), say(3)}), feed(), "0: t0 s0=0 e0 | 0 4 | 6"},
	})
}

// P2: a pick, at once and when it waits in one line or two.
func TestRunPick(t *testing.T) {
	both := steps{set(0, 4), send(0, 0), set(0, 5), send(0, 1)}
	behind := func(first steps, more ...impl.Step) steps { return append(slices.Clone(first), more...) }
	wantRuns(t, []runCase{
		{"B ahead of N", planWith(100, rooms(1, 1), behind(both, append(gotten(pick(0, 0, 1)), gotten(pick(0, 0, 1))...)...)), feed(), "0: t0 s0=4 s0=1 s0=5 s0=2 e0 | 0 10 | 6"},
		{"B the greater one", planWith(100, rooms(1, 1), behind(both, append(gotten(pick(0, 1, 0)), gotten(pick(0, 1, 0))...)...)), feed(), "0: t0 s0=5 s0=1 s0=4 s0=2 e0 | 0 10 | 6"},
		{"the same one", planWith(100, rooms(1, 1), behind(both, append(gotten(pick(0, 1, 1)), pick(0, 1, 1))...)), feed(), "1: t0 s0=5 s0=1 | 0 8 | 5"},
		{"into the flag, from N", planWith(100, rooms(1, 1), steps{set(0, 5), send(0, 1), pick(3, 0, 1), say(3)}), feed(), "0: t0 s0=2 e0 | 0 4 | 6"},
		{"into the flag, from N, when it has waited", planWith(100, rooms(1, 1), steps{pick(3, 0, 1), say(3)}), feed(event(0, 1, 9)), "0: t0 <9 t0 s0=2 e0 | 0 2 | 6"},
		{"who sends to N", planWith(100, rooms(0, 0), behind(steps{spawn(0, 1), yield()}, gotten(pick(0, 1, 0))...), steps{set(0, 8), send(0, 0)}), feed(), "0: t0 t1 t0 s0=8 s0=2 e0 t1 e1 | 0 7 | 6 6"},
		{"waits, B comes", planWith(100, rooms(0, 0), gotten(pick(0, 0, 1))), feed(event(0, 0, 9)), "0: t0 <9 t0 s0=9 s0=1 e0 | 0 3 | 6"},
		{"waits, N comes", planWith(100, rooms(0, 0), gotten(pick(0, 0, 1))), feed(event(0, 1, 9)), "0: t0 <9 t0 s0=9 s0=2 e0 | 0 3 | 6"},
		{"B comes, and it leaves N", planWith(100, rooms(0, 0), append(gotten(pick(0, 0, 1)), gotten(take(0, 1))...)), feed(event(0, 0, 8), event(0, 1, 9)), "0: t0 <8 <9 t0 s0=8 s0=1 s0=9 s0=1 e0 | 0 6 | 6"},
		{"N comes, and it leaves B", planWith(100, rooms(0, 0), append(gotten(pick(0, 0, 1)), gotten(take(0, 0))...)), feed(event(0, 1, 8), event(0, 0, 9)), "0: t0 <8 <9 t0 s0=8 s0=2 s0=9 s0=1 e0 | 0 6 | 6"},
		{"stands once in the line of the same one", planWith(100, rooms(0), append(gotten(pick(0, 0, 0)), gotten(take(0, 0))...)), feed(event(0, 0, 8), event(0, 0, 9)), "0: t0 <8 <9 t0 s0=8 s0=1 s0=9 s0=1 e0 | 0 6 | 6"},
		{"those behind it in both lines come next", planWith(100, rooms(0, 0), steps{spawn(0, 1), spawn(0, 2), spawn(0, 3)}, gotten(pick(0, 0, 1)), gotten(take(0, 0)), gotten(take(0, 1))), feed(event(0, 1, 7), event(0, 0, 8), event(0, 1, 9)),
			"0: t0 e0 t1 t2 t3 <7 <8 <9 t1 s1=7 s1=2 e1 t2 s2=8 s2=1 e2 t3 s3=9 s3=1 e3 | 0 12 | 6 6 6 6"},
		{"two picks, crossed", planWith(100, rooms(0, 0), steps{spawn(0, 1), spawn(0, 2)}, gotten(pick(0, 0, 1)), gotten(pick(0, 1, 0))), feed(event(0, 1, 7), event(0, 1, 8)),
			"0: t0 e0 t1 t2 <7 <8 t1 s1=7 s1=2 e1 t2 s2=8 s2=1 e2 | 0 8 | 6 6 6"},
		{"both closed", planWith(100, rooms(0, 0), behind(steps{set(3, 5), shut(0), shut(1)}, gotten(pick(0, 0, 1))...)), feed(), "0: t0 s0=0 s0=0 e0 | 0 6 | 6"},
		{"the same one, closed", planWith(100, rooms(0), behind(steps{set(3, 5), shut(0)}, gotten(pick(0, 0, 0))...)), feed(), "0: t0 s0=0 s0=0 e0 | 0 5 | 6"},
		{"both closed, with numbers", planWith(100, rooms(1, 1), behind(both, append(steps{shut(0), shut(1)}, append(gotten(pick(0, 0, 1)), gotten(pick(0, 0, 1))...)...)...)), feed(), "0: t0 s0=4 s0=1 s0=5 s0=2 e0 | 0 12 | 6"},
		{"B closed, N open", planWith(100, rooms(0, 0), behind(steps{shut(0)}, gotten(pick(0, 0, 1))...)), feed(event(0, 0, 8), event(0, 1, 9)), "0: t0 <8 <9 t0 s0=9 s0=2 e0 | 0 4 | 6"},
		{"N closed, B open", planWith(100, rooms(0, 0), behind(steps{shut(1)}, gotten(pick(0, 0, 1))...)), feed(event(0, 1, 8), event(0, 0, 9)), "0: t0 <8 <9 t0 s0=9 s0=1 e0 | 0 4 | 6"},
		{"B is closed meanwhile", planWith(100, rooms(0, 0), steps{spawn(0, 1), yield(), shut(0)}, gotten(pick(0, 0, 1))), feed(event(1, 1, 9)), "0: t0 t1 t0 e0 @1 <9 t1 s1=9 s1=2 e1 | 1 6 | 6 6"},
		{"N is closed meanwhile", planWith(100, rooms(0, 0), steps{spawn(0, 1), yield(), shut(1)}, gotten(pick(0, 0, 1))), feed(event(1, 0, 9)), "0: t0 t1 t0 e0 @1 <9 t1 s1=9 s1=1 e1 | 1 6 | 6 6"},
		{"both are closed meanwhile", planWith(100, rooms(0, 0), steps{spawn(0, 1), yield(), shut(1), yield(), shut(0), say(0)}, behind(steps{set(3, 5)}, gotten(pick(0, 0, 1))...)), feed(), "0: t0 t1 t0 t0 s0=1 e0 t1 s1=0 s1=0 e1 | 0 10 | 6 6"},
		{"one was closed, the other is meanwhile", planWith(100, rooms(0, 0), steps{shut(0), spawn(0, 1), yield(), shut(1)}, behind(steps{set(3, 5)}, gotten(pick(0, 0, 1))...)), feed(), "0: t0 t1 t0 e0 t1 s1=0 s1=0 e1 | 0 8 | 6 6"},
		{"the same one is closed meanwhile", planWith(100, rooms(0), steps{spawn(0, 1), yield(), shut(0)}, behind(steps{set(3, 5)}, gotten(pick(0, 0, 0))...)), feed(), "0: t0 t1 t0 e0 t1 s1=0 s1=0 e1 | 0 7 | 6 6"},
		{"who takes alone gets nothing, a pick before it waits on", planWith(100, rooms(0, 0), steps{spawn(0, 1), spawn(0, 2), yield(), shut(0)}, gotten(pick(0, 0, 1)), gotten(take(0, 0))), feed(), "1: t0 t1 t2 t0 e0 t2 s2=0 s2=0 e2 | 0 8 | 6 5 6"},
	})
}
