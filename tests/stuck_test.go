package tests

import (
	"math"
	"testing"

	"loop.example/beat/impl"
)

// P9: who waits for what, each way of waiting alone and several at once.
func TestStuckWhatFor(t *testing.T) {
	late := func(long int64, more ...impl.Step) steps { return append(steps{set(0, long), sleep(0)}, more...) }
	wantStuck(t, []stuckCase{
		{"who waits for one who takes", planWith(9, rooms(0), steps{spawn(2, 1), wait(2)}, steps{take(0, 0)}), feed(), 1, "0w1 1t0", ""},
		{"who sends without room", planWith(9, rooms(0), steps{send(0, 0)}), feed(), 1, "0s0", ""},
		{"who sends when the room is used", planWith(9, rooms(0, 1), steps{send(0, 1), send(0, 1)}), feed(), 1, "0s1", ""},
		{"who takes", planWith(9, rooms(0, 0, 0), steps{take(0, 2)}), feed(), 1, "0t2", ""},
		{"who takes at the last channel", planWith(9, make([]int, 10), steps{take(0, 9)}), feed(), 1, "0t9", ""},
		{"who picks", planWith(9, rooms(0, 0, 0), steps{pick(0, 1, 2)}), feed(), 1, "0t1", ""},
		{"who picks, B is the greater one", planWith(9, rooms(0, 0, 0), steps{pick(0, 2, 1)}), feed(), 1, "0t2", ""},
		{"who picks from one", planWith(9, rooms(0, 0), steps{pick(0, 1, 1)}), feed(), 1, "0t1", ""},
		{"who picks into the flag", planWith(9, rooms(0, 0), steps{pick(3, 1, 0)}), feed(), 1, "0t1", ""},
		{"each way at once", planWith(9, rooms(0, 0, 0, 0), steps{spawn(2, 1), spawn(2, 2), spawn(2, 3), spawn(2, 4), wait(2)}, steps{send(0, 3)}, steps{take(0, 2)}, steps{pick(0, 1, 0)}, steps{set(1, 2), wait(1)}), feed(), 1, "0w4 1s3 2t2 3t1 4w2", ""},
		{"in order, whoever has waited longest", planWith(9, rooms(0), steps{spawn(1, 1), spawn(1, 2), set(0, 3), sleep(0), take(0, 0)}, late(2, take(0, 0)), late(1, take(0, 0))), feed(), 1, "0t0 1t0 2t0", ""},
		{"many who send at one channel, in order", planWith(9, rooms(1), steps{spawn(1, 1), spawn(1, 2), set(0, 3), sleep(0), send(0, 0)}, late(2, send(0, 0)), late(1, send(0, 0), send(0, 0))), feed(), 1, "0s0 1s0 2s0", ""},
		{"two who send at two channels", planWith(9, rooms(0, 0, 0), steps{spawn(1, 1), send(0, 2)}, steps{send(0, 1)}), feed(), 1, "0s2 1s1", ""},
		{"many who wait for one, in order", planWith(9, rooms(0), steps{spawn(1, 1), spawn(1, 2), spawn(1, 3), set(0, 3), sleep(0), set(0, 2), wait(0)}, late(2, set(0, 2), wait(0)), steps{take(0, 0)}, late(1, set(0, 2), wait(0))), feed(), 1, "0w2 1w2 2t0 3w2", ""},
		{"who is over is not told", planWith(9, rooms(0), steps{spawn(0, 1), spawn(0, 2), spawn(0, 3), wait(0)}, nil, failing, steps{take(0, 0)}), feed(), 1, "0w3 3t0", ""},
		{"the first one is over", planWith(9, rooms(0), steps{spawn(0, 1), spawn(0, 1)}, steps{take(0, 0)}), feed(), 1, "1t0 2t0", ""},
		{"what it waits for now, not before", planWith(20, rooms(1, 0, 0), steps{send(0, 0), take(1, 0), spawn(1, 1), wait(1), send(0, 1)}, nil), feed(), 1, "0s1", ""},
		{"at its second turn", planWith(1, rooms(0, 0), steps{yield(), say(0), take(0, 1)}), feed(), 1, "0t1", ""},
		{"who was due once", planWith(9, rooms(0, 0), steps{takeFor(0, 0, 5), take(0, 1)}), feed(), 1, "0t1", ""},
		{"who got something from N and picks again", planWith(9, rooms(0, 0), steps{pick(0, 0, 1), pick(0, 0, 1)}), feed(event(0, 1, 7)), 1, "0t0", ""},
	})
}

// P9: of a pick the first of its two that is open.
func TestStuckPick(t *testing.T) {
	closer := func(c ...int) steps {
		s := steps{spawn(0, 1), yield()}
		for _, c := range c {
			s = append(s, shut(c))
		}
		return s
	}
	wantStuck(t, []stuckCase{
		{"B was closed", planWith(9, rooms(0, 0), steps{shut(0), pick(0, 0, 1)}), feed(), 1, "0t1", ""},
		{"B was closed, the greater one", planWith(9, rooms(0, 0), steps{shut(1), pick(0, 1, 0)}), feed(), 1, "0t0", ""},
		{"N was closed", planWith(9, rooms(0, 0), steps{shut(1), pick(0, 0, 1)}), feed(), 1, "0t0", ""},
		{"N was closed, the lesser one", planWith(9, rooms(0, 0), steps{shut(0), pick(0, 1, 0)}), feed(), 1, "0t1", ""},
		{"another one was closed", planWith(9, rooms(0, 0, 0), steps{shut(0), pick(0, 2, 1)}), feed(), 1, "0t2", ""},
		{"B is closed meanwhile", planWith(9, rooms(0, 0), closer(0), steps{pick(0, 0, 1)}), feed(), 1, "1t1", ""},
		{"B is closed meanwhile, the greater one", planWith(9, rooms(0, 0, 0), closer(2), steps{pick(0, 2, 1)}), feed(), 1, "1t1", ""},
		{"N is closed meanwhile", planWith(9, rooms(0, 0), closer(1), steps{pick(0, 0, 1)}), feed(), 1, "1t0", ""},
		{"N is closed meanwhile, the lesser one", planWith(9, rooms(0, 0, 0), closer(1), steps{pick(0, 2, 1)}), feed(), 1, "1t2", ""},
		{"another one is closed meanwhile", planWith(9, rooms(0, 0, 0), closer(0), steps{pick(0, 2, 1)}), feed(), 1, "1t2", ""},
		{"both were closed", planWith(9, rooms(0, 0), steps{shut(0), shut(1), pick(0, 0, 1)}), feed(), 0, "", ""},
		{"both are closed meanwhile", planWith(9, rooms(0, 0), closer(0, 1), steps{pick(0, 0, 1)}), feed(), 0, "", ""},
		{"both are closed meanwhile, N first", planWith(9, rooms(0, 0), closer(1, 0), steps{pick(0, 0, 1)}), feed(), 0, "", ""},
		{"the same one", planWith(9, rooms(0, 0), closer(0), steps{pick(0, 1, 1)}), feed(), 1, "1t1", ""},
		{"the same one was closed", planWith(9, rooms(0), steps{shut(0), pick(0, 0, 0)}), feed(), 0, "", ""},
		{"the same one is closed meanwhile", planWith(9, rooms(0), closer(0), steps{pick(0, 0, 0)}), feed(), 0, "", ""},
		{"B was closed with a number in it", planWith(9, rooms(1, 0), steps{send(0, 0), shut(0), pick(0, 0, 1), pick(0, 0, 1)}), feed(), 1, "0t1", ""},
		{"two picks, crossed", planWith(9, rooms(0, 0), steps{spawn(0, 1), pick(0, 1, 0)}, steps{pick(0, 0, 1)}), feed(), 1, "0t1 1t0", ""},
		{"two picks, crossed, one is closed", planWith(9, rooms(0, 0), steps{spawn(0, 1), spawn(0, 2), pick(0, 1, 0)}, steps{pick(0, 0, 1)}, steps{shut(0)}), feed(), 1, "0t1 1t1", ""},
		{"an event into the closed one is dropped", planWith(9, rooms(0, 0), steps{shut(0), pick(0, 0, 1)}), feed(event(3, 0, 7)), 1, "0t1", ""},
	})
}

// P8: rings, and what is none.
func TestStuckRing(t *testing.T) {
	wantStuck(t, []stuckCase{
		{"a ring of one", planWith(9, nil, steps{wait(0)}), feed(), 1, "0w0", "0"},
		{"a ring of one that is not the first", waitingPlan(9, nobody, 1), feed(), 1, "1w1", "1"},
		{"a ring of two", waitingPlan(9, 1, 0), feed(), 1, "0w1 1w0", "0 1"},
		{"a ring of three, up", waitingPlan(9, 1, 2, 0), feed(), 1, "0w1 1w2 2w0", "0 1 2"},
		{"a ring of three, down", waitingPlan(9, 2, 0, 1), feed(), 1, "0w2 1w0 2w1", "0 2 1"},
		{"a ring of five, crossed, without the first", waitingPlan(9, nobody, 4, 1, 2, 5, 3), feed(), 1, "1w4 2w1 3w2 4w5 5w3", "1 4 5 3 2"},
		{"one who is lesser waits for it", waitingPlan(9, 2, 3, 3, 1), feed(), 1, "0w2 1w3 2w3 3w1", "1 3"},
		{"one who is lesser waits for its greatest", waitingPlan(9, 3, 2, 3, 1), feed(), 1, "0w3 1w2 2w3 3w1", "1 2 3"},
		{"one who is greater waits for it", waitingPlan(9, 1, 0, 1), feed(), 1, "0w1 1w0 2w1", "0 1"},
		{"one between waits for it", waitingPlan(9, 2, 2, 0), feed(), 1, "0w2 1w2 2w0", "0 2"},
		{"a row of lesser ones waits for it", waitingPlan(9, 1, 2, 4, 4, 3), feed(), 1, "0w1 1w2 2w4 3w4 4w3", "3 4"},
		{"a row of greater ones waits for it", waitingPlan(9, 1, 0, 1, 2, 3), feed(), 1, "0w1 1w0 2w1 3w2 4w3", "0 1"},
		{"a row waits for a ring of one", waitingPlan(9, 1, 2, 2), feed(), 1, "0w1 1w2 2w2", "2"},
		{"many wait for a ring of one", waitingPlan(9, 3, 3, 3, 3, 3), feed(), 1, "0w3 1w3 2w3 3w3 4w3", "3"},
		{"two rings", waitingPlan(9, 1, 0, 3, 2), feed(), 1, "0w1 1w0 2w3 3w2", "0 1"},
		{"two rings, one within the other's numbers", waitingPlan(9, 3, 2, 1, 0), feed(), 1, "0w3 1w2 2w1 3w0", "0 3"},
		{"three rings of one", waitingPlan(9, nobody, 1, 2, 3), feed(), 1, "1w1 2w2 3w3", "1"},
		{"the least one waits for the second ring", waitingPlan(9, 3, 2, 1, 4, 3), feed(), 1, "0w3 1w2 2w1 3w4 4w3", "1 2"},
		{"the least one waits for the greater ring, the lesser is of one", waitingPlan(9, 2, 1, 3, 2), feed(), 1, "0w2 1w1 2w3 3w2", "1"},
		{"a greater ring with the least greatest", waitingPlan(9, nobody, 5, 3, 2, nobody, 1), feed(), 1, "1w5 2w3 3w2 5w1", "1 5"},
		{"a row that ends at one who is over", waitingPlan(9, 1, 2, nobody), feed(), 0, "", ""},
		{"a row that ends at one who takes", planWith(9, rooms(0), steps{spawn(0, 1), wait(0)}, steps{spawn(0, 2), wait(0)}, steps{take(0, 0)}), feed(), 1, "0w1 1w2 2t0", ""},
		{"a row that ends at one who sends", planWith(9, rooms(0), steps{spawn(0, 1), wait(0)}, steps{spawn(0, 2), wait(0)}, steps{send(0, 0)}), feed(), 1, "0w1 1w2 2s0", ""},
		{"channels are no tasks: one who takes at its own number", planWith(9, rooms(0), steps{take(0, 0)}), feed(), 1, "0t0", ""},
		{"channels are no tasks: one who sends at its own number", planWith(9, rooms(0), steps{send(0, 0)}), feed(), 1, "0s0", ""},
		{"channels are no tasks: one who picks at its own number", planWith(9, rooms(0), steps{pick(0, 0, 0)}), feed(), 1, "0t0", ""},
		{"channels are no tasks: back to who waits", planWith(9, rooms(0), steps{spawn(0, 1), wait(0)}, steps{send(0, 0)}), feed(), 1, "0w1 1s0", ""},
		{"channels are no tasks: two who take at each other's number", planWith(9, rooms(0, 0), steps{spawn(0, 1), take(0, 1)}, steps{take(0, 0)}), feed(), 1, "0t1 1t0", ""},
		{"a row to a channel, and a ring behind it", planWith(9, rooms(0), steps{spawn(0, 1), spawn(1, 2), wait(0)}, steps{take(0, 0)}, steps{set(0, 2), wait(0)}), feed(), 1, "0w1 1t0 2w2", "2"},
		{"a ring ahead of a row to a channel", planWith(9, rooms(0), steps{spawn(1, 1), spawn(1, 2), wait(0)}, steps{spawn(0, 2), wait(0)}, steps{take(0, 0)}), feed(), 1, "0w0 1w3 2t0 3t0", "0"},
		{"a ring that some have left", planWith(9, nil, steps{spawn(1, 1), wait(1), set(1, 2), wait(1)}, steps{spawn(1, 2)}, steps{set(0, 1), sleep(0), set(1, 0), wait(1)}), feed(), 1, "0w2 2w0", "0 2"},
	})
}

// P8, P9: nothing when the run ends otherwise, though all but one already wait in a ring.
func TestStuckNothing(t *testing.T) {
	beside := func(s ...impl.Step) impl.Plan {
		return planWith(9, rooms(0, 0), append(steps{spawn(0, 1), spawn(0, 2)}, s...), steps{set(0, 1), wait(0)}, steps{shut(1), take(0, 0)})
	}
	ticks := func(n int) impl.Input { return impl.Input{Ticks: n} }
	wantStuck(t, []stuckCase{
		{"all are over", planWith(9, rooms(1), steps{spawn(0, 1), wait(0), send(0, 0), take(0, 0)}, nil), feed(), 0, "", ""},
		{"all have failed", planWith(9, nil, failing), feed(), 0, "", ""},
		{"an empty body", planWith(1, nil, nil), ticks(0), 0, "", ""},
		{"the world alone waits", planWith(9, rooms(0), nil), feed(event(1, 0, 7)), 0, "", ""},
		{"a ring of one", beside(), feed(), 1, "1w1 2t0", "1"},
		{"one who goes on and on", beside(set(0, math.MaxInt64), loop(0, 0)), feed(), 2, "", ""},
		{"as many ticks as there must be", beside(), ticks(6), 1, "1w1 2t0", "1"},
		{"one tick too few", beside(), ticks(5), 2, "", ""},
		{"no ticks", planWith(9, nil, steps{wait(0)}), ticks(0), 2, "", ""},
		{"one tick", planWith(9, nil, steps{wait(0)}), ticks(1), 1, "0w0", "0"},
		{"one who sleeps up to Until", beside(set(0, 7), sleep(0)), until(7), 1, "1w1 2t0", "1"},
		{"one who sleeps behind Until", beside(set(0, 7), sleep(0)), until(6), 4, "", ""},
		{"one who takes with a bound up to Until", beside(takeFor(0, 0, 7)), until(7), 1, "1w1 2t0", "1"},
		{"one who takes with a bound behind Until", beside(takeFor(0, 0, 7)), until(6), 4, "", ""},
		{"an event at Until", beside(), until(7, event(7, 1, 1)), 1, "1w1 2t0", "1"},
		{"an event behind Until", beside(), until(6, event(7, 1, 1)), 4, "", ""},
		{"the second event is behind Until", beside(), until(6, event(6, 1, 1), event(7, 1, 1)), 4, "", ""},
	})
}

// P9: an event for somebody who takes makes a run go on.
func TestStuckEvent(t *testing.T) {
	taker, picker := steps{take(0, 0)}, steps{pick(0, 0, 1)}
	two := planWith(9, rooms(0, 0), steps{spawn(0, 1), set(0, 1), sleep(0), take(0, 0)}, taker)
	wantStuck(t, []stuckCase{
		{"without it", planWith(9, rooms(0), taker), feed(), 1, "0t0", ""},
		{"with it", planWith(9, rooms(0), taker), feed(event(9, 0, 7)), 0, "", ""},
		{"at time 0", planWith(9, rooms(0), taker), feed(event(0, 0, 7)), 0, "", ""},
		{"into another channel", planWith(9, rooms(0, 0), taker), feed(event(9, 1, 7)), 1, "0t0", ""},
		{"for a pick, at B", planWith(9, rooms(0, 0), picker), feed(event(9, 0, 7)), 0, "", ""},
		{"for a pick, at N", planWith(9, rooms(0, 0), picker), feed(event(9, 1, 7)), 0, "", ""},
		{"for the first of two who take", two, feed(event(9, 0, 7)), 1, "0t0", ""},
		{"for both of them", two, feed(event(9, 0, 7), event(10, 0, 7)), 0, "", ""},
		{"where somebody sends", planWith(9, rooms(0), steps{send(0, 0)}), feed(event(9, 0, 7)), 1, "0s0", ""},
		{"beside a ring", planWith(9, rooms(0), steps{spawn(1, 1), wait(0)}, taker), feed(event(9, 0, 7)), 1, "0w0", "0"},
		{"at the end of a row", planWith(9, rooms(0), steps{spawn(1, 1), wait(1)}, taker), feed(event(9, 0, 7)), 0, "", ""},
		{"it makes a ring", planWith(9, rooms(0), steps{spawn(1, 1), wait(1)}, steps{take(0, 0), wait(0)}), feed(event(9, 0, 0)), 1, "0w1 1w0", "0 1"},
		{"it came too early, and there was no room", planWith(9, rooms(0), steps{set(0, 5), sleep(0), take(0, 0), take(0, 0)}), feed(event(2, 0, 7)), 1, "0t0", ""},
	})
}

// P8, P9: a plan or an input that is not valid; with a good one there would be a ring.
func TestStuckNotValid(t *testing.T) {
	ring := planWith(5, rooms(0), steps{wait(0)}, steps{spawn(0, 1)})
	wantStuck(t, []stuckCase{{"a good one", ring, feed(event(0, 0, 0)), 1, "0w0", "0"}})
	with := func(change func(p *impl.Plan)) impl.Plan {
		p := sparePlan(ring)
		change(&p)
		return p
	}
	for _, c := range []struct {
		name string
		p    impl.Plan
		in   impl.Input
	}{
		{"zero values", impl.Plan{}, impl.Input{}},
		{"no bodies", with(func(p *impl.Plan) { p.Bodies = nil }), feed()},
		{"21 bodies", with(func(p *impl.Plan) { p.Bodies = append(p.Bodies, make([]impl.Body, 19)...) }), feed()},
		{"slice 0", with(func(p *impl.Plan) { p.Slice = 0 }), feed()},
		{"slice 101", with(func(p *impl.Plan) { p.Slice = 101 }), feed()},
		{"the least slice", with(func(p *impl.Plan) { p.Slice = math.MinInt }), feed()},
		{"room 11", with(func(p *impl.Plan) { p.Rooms[0] = 11 }), feed()},
		{"room -1", with(func(p *impl.Plan) { p.Rooms[0] = -1 }), feed()},
		{"11 channels", with(func(p *impl.Plan) { p.Rooms = make([]int, 11) }), feed()},
		{"201 steps", with(func(p *impl.Plan) { p.Bodies[1].Steps = says(201) }), feed()},
		{"a bad step behind", with(func(p *impl.Plan) { p.Bodies[0].Steps = append(p.Bodies[0].Steps, badStep) }), feed()},
		{"a bad step that nobody does", with(func(p *impl.Plan) { p.Bodies[1].Steps[0] = badStep }), feed()},
		{"a block that ends too late", with(func(p *impl.Plan) { p.Bodies[1].Steps[0] = when(0, 1) }), feed()},
		{"11 blocks", with(func(p *impl.Plan) { p.Bodies[1].Steps = heads(11, 0) }), feed()},
		{"5001 ticks", ring, impl.Input{Ticks: 5001}},
		{"-1 ticks", ring, impl.Input{Ticks: -1}},
		{"until -1", ring, until(-1)},
		{"until 1000001", ring, until(1000001)},
		{"an event of no channel", ring, feed(event(0, 1, 0))},
		{"an event of channel -1", ring, feed(event(0, -1, 0))},
		{"an event ahead of 0", ring, feed(event(-1, 0, 0))},
		{"an event too late", ring, feed(event(1000001, 0, 0))},
		{"events out of order", ring, feed(event(2, 0, 0), event(1, 0, 0))},
		{"101 events", ring, feed(make([]impl.Event, 101)...)},
	} {
		if got := impl.StuckAt(c.p, c.in); len(got) != 0 {
			t.Errorf("%s: stuck: %s", c.name, toldStuck(got))
		}
		if got := impl.RingAt(c.p, c.in); len(got) != 0 {
			t.Errorf("%s: a ring: %v", c.name, got)
		}
	}
}
