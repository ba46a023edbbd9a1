package tests

import (
	"fmt"
	"reflect"
	"runtime"
	"slices"
	"sync"
	"testing"

	"loop.example/beat/impl"
)

// ringed is who waits for whom, and what must be told of it.
type ringed struct {
	whom  []int
	stuck []impl.Stuck
	ring  []int
}

func (d *dice) shuffled(n int) []int {
	out := make([]int, n)
	for k := range out {
		at := d.below(k + 1)
		out[k] = out[at]
		out[at] = k
	}
	return out
}

// randomRing has a ring of n tasks, any numbers in any order, among others of which each waits for one who was placed before it, or for nobody.
func randomRing(d *dice, n, others int) ringed {
	places := d.shuffled(n + others)
	g := ringed{whom: make([]int, n+others), ring: places[:n]}
	leads := make([]bool, n+others)
	for k, place := range g.ring {
		g.whom[place] = g.ring[(k+1)%n]
		leads[place] = true
	}
	for k, place := range places[n:] {
		g.whom[place] = nobody
		if d.below(4) > 0 {
			g.whom[place] = places[d.below(n+k)]
			leads[place] = leads[g.whom[place]]
		}
	}
	for place, whom := range g.whom {
		if leads[place] {
			g.stuck = append(g.stuck, impl.Stuck{Task: place, State: impl.SWaiting, What: whom})
		}
	}
	least := slices.Index(g.ring, slices.Min(g.ring))
	g.ring = append(slices.Clone(g.ring[least:]), g.ring[:least]...)
	return g
}

// P8: rings of 1 to 15 tasks, at many slices, among tasks that wait for them, for others, or for nobody.
func TestRingOfEachSize(t *testing.T) {
	d := &dice{state: 80}
	seen := map[string]int{}
	for n := 1; n <= 15; n++ {
		for k := range 120 {
			g := randomRing(d, n, k%6)
			p, in := waitingPlan(1+d.below(30), g.whom...), impl.Input{Ticks: 5000, Until: 1}
			if got := impl.RingAt(p, in); !slices.Equal(got, g.ring) {
				t.Fatalf("%v: the ring is %v, not %v", g.whom, got, g.ring)
			}
			if got := impl.StuckAt(p, in); !slices.Equal(got, g.stuck) {
				t.Fatalf("%v: stuck\n got %s\nwant %s", g.whom, toldStuck(got), toldStuck(g.stuck))
			}
			for _, s := range g.stuck {
				switch {
				case slices.Contains(g.ring, s.Task):
				case s.Task < g.ring[0]:
					seen["lesser than the ring"]++
				case s.Task > slices.Max(g.ring):
					seen["greater than the ring"]++
				default:
					seen["between"]++
				}
			}
			if len(g.stuck) < len(g.whom) {
				seen["not stuck"]++
			}
		}
	}
	for _, what := range []string{"lesser than the ring", "greater than the ring", "between", "not stuck"} {
		if seen[what] < 50 {
			t.Errorf("%s: met %d times only", what, seen[what])
		}
	}
}

// P8: whoever waits for whom, all ways that three tasks have and many of those that more have.
func TestRingOfAnyWaits(t *testing.T) {
	d := &dice{state: 81}
	for a := nobody; a < 3; a++ {
		for b := nobody; b < 3; b++ {
			for c := nobody; c < 3; c++ {
				wantPlainStuck(t, "three tasks", waitingPlan(9, a, b, c), feed())
			}
		}
	}
	several := 0
	for range 1500 {
		whom := make([]int, 1+d.below(20))
		for k := range whom {
			whom[k] = d.below(len(whom))
		}
		p := waitingPlan(1+d.below(100), whom...)
		stuck, ring := wantPlainStuck(t, fmt.Sprint(whom), p, feed())
		if len(stuck) != len(whom) || len(ring) == 0 {
			t.Fatalf("%v: all wait for somebody, so there is a ring: %s, %v", whom, toldStuck(stuck), ring)
		}
		rest := slices.DeleteFunc(stuck, func(s impl.Stuck) bool { return slices.Contains(ring, s.Task) })
		if len(plainRing(rest)) > 0 {
			several++
		}
	}
	if several < 300 {
		t.Errorf("several rings were met %d times only", several)
	}
}

// P8: a ring of all tasks that there can be. The first one hands to each the number of the next.
func TestRingOfAllTasks(t *testing.T) {
	first := steps{set(1, 49), loop(1, 1), spawn(2, 1), sleep(0), set(2, 1), set(1, 48), loop(1, 2), add(2, 2, 1), send(2, 0), set(2, 0), send(2, 0), set(2, 1), wait(2)}
	p := planWith(100, rooms(0), first, steps{take(0, 0), wait(0)})
	var stuck []impl.Stuck
	var ring []int
	for k := range 50 {
		stuck = append(stuck, impl.Stuck{Task: k, State: impl.SWaiting, What: (k + 1) % 50})
		ring = append(ring, k)
	}
	wantStuck(t, []stuckCase{{"50 tasks", p, feed(), 1, toldStuck(stuck), toldRing(ring)}})
}

// randomStandstill makes tasks that sleep a little, and then wait for one another, wait at few channels, close one, or end.
func randomStandstill(d *dice) (impl.Plan, impl.Input) {
	n, chans := 1+d.below(12), 1+d.below(4)
	p := impl.Plan{Slice: 1 + d.below(12), Rooms: make([]int, chans)}
	var first steps
	for k := range n {
		c := d.below(chans)
		s := steps{set(0, int64(1+d.below(4))), sleep(0)}
		switch d.below(16) {
		case 0:
		case 1:
			s = append(s, send(0, c))
		case 2:
			s = append(s, take(0, c))
		case 3, 4:
			s = append(s, pick(0, c, int64(d.below(chans))))
		case 5, 6:
			s = append(s, shut(c))
		default:
			s = append(s, set(1, int64(d.below(n))), wait(1))
		}
		if k > 0 {
			first = append(first, spawn(0, k))
		}
		p.Bodies = append(p.Bodies, impl.Body{Steps: s})
	}
	p.Bodies[0].Steps = append(first, p.Bodies[0].Steps...)
	in := randomInput(d, chans)
	in.Feed = in.Feed[:min(len(in.Feed), d.below(4))]
	return p, in
}

// P8, P9: many runs against the plain form of the document, which must have met all that can be told.
func TestStuckAtRandom(t *testing.T) {
	d := &dice{state: 82}
	seen := map[string]int{}
	for k := range 12000 {
		random := randomRun
		if k%5 > 0 {
			random = randomStandstill
		}
		p, in := random(d)
		stuck, ring := wantPlainStuck(t, fmt.Sprintf("run %d", k), p, in)
		if t.Failed() {
			return
		}
		seen[fmt.Sprint("code ", impl.RunPlan(p, in).Code)]++
		seen[fmt.Sprint("ring of ", min(len(ring), 4))]++
		for _, s := range stuck {
			seen[fmt.Sprint("state ", s.State)]++
		}
		if len(ring) > 0 && ring[0] > stuck[0].Task {
			seen["somebody ahead of the ring"]++
		}
		r, _ := plainEnd(p, in)
		for _, s := range stuck {
			ask := r.tasks[s.Task].ask
			if s.State == impl.STaking && ask.Op == impl.BPick && r.chans[ask.B].closed {
				seen["a pick whose first one is closed"]++
			}
			if s.State == impl.STaking && ask.Op == impl.BPick && r.chans[ask.N].closed {
				seen["a pick whose second one is closed"]++
			}
		}
	}
	for _, what := range []string{
		"code 0", "code 1", "code 2", "code 4", "state 3", "state 4", "state 5",
		"ring of 0", "ring of 1", "ring of 2", "ring of 3", "ring of 4", "somebody ahead of the ring",
		"a pick whose first one is closed", "a pick whose second one is closed",
	} {
		if seen[what] < 40 {
			t.Errorf("%s was met %d times only", what, seen[what])
		}
	}
}

// endOf counts, from the report alone, in which way a run has ended.
func endOf(r impl.Report, in impl.Input) (waits, live, left int) {
	left = len(in.Feed)
	for _, rec := range r.Recs {
		if rec.Kind == impl.KFeed {
			left--
		}
	}
	for _, s := range r.States {
		switch s {
		case impl.SWaiting, impl.SSending, impl.STaking:
			waits++
		case impl.SReady, impl.SRunning, impl.SAsleep:
			live++
		}
	}
	return waits, live, left
}

// P9: a standstill is told if and only if somebody waits and nothing is left; where it is not told, more ticks and more time let the run go on.
func TestStandstillOnlyAtTheEnd(t *testing.T) {
	d := &dice{state: 90}
	codes := map[int]int{}
	for k := range 4000 {
		p, in := randomRun(d)
		r := impl.RunPlan(p, in)
		codes[r.Code]++
		waits, live, left := endOf(r, in)
		more := in
		more.Ticks, more.Until = 5000, 1000000
		after := impl.RunPlan(p, more)
		goesOn := len(after.Recs) > len(r.Recs) || after.Ticks > r.Ticks
		switch r.Code {
		case 0:
			if waits+live+left > 0 || goesOn {
				t.Fatalf("run %d, %v with %v: not all is over: %s", k, p, in, told(r))
			}
		case 1:
			if waits == 0 || live+left > 0 || !reflect.DeepEqual(after, r) {
				t.Fatalf("run %d, %v with %v: no standstill: %s", k, p, in, told(r))
			}
		default:
			if !goesOn {
				t.Fatalf("run %d, %v with %v: nothing was left: %s", k, p, in, told(r))
			}
		}
		if stuck := impl.StuckAt(p, in); r.Code == 1 && len(stuck) != waits || r.Code != 1 && len(stuck) != 0 {
			t.Fatalf("run %d, %v with %v: %s is stuck at %s", k, p, in, toldStuck(stuck), told(r))
		}
	}
	for _, code := range []int{0, 1, 2, 4} {
		if codes[code] < 100 {
			t.Errorf("code %d was met %d times only", code, codes[code])
		}
	}
}

// P9: an event that comes after a standstill makes it go on when somebody takes there, and changes nothing of who is stuck otherwise.
func TestStandstillAndOneEventMore(t *testing.T) {
	d := &dice{state: 91}
	on, off := 0, 0
	for k := range 3000 {
		p, in := randomRun(d)
		r := impl.RunPlan(p, in)
		if r.Code != 1 || r.Ticks > 400 {
			continue
		}
		stuck := impl.StuckAt(p, in)
		state, _ := plainEnd(p, in)
		for c := range p.Rooms {
			more := impl.Input{Feed: append(slices.Clone(in.Feed), event(r.Time+1, c, 77)), Ticks: 5000, Until: 1000000}
			after := impl.RunPlan(p, more)
			rest := after.Recs[min(len(r.Recs), len(after.Recs)):]
			taking := slices.ContainsFunc(stuck, func(s impl.Stuck) bool { return s.State == impl.STaking && s.What == c })
			if !slices.Equal(after.Recs[:len(after.Recs)-len(rest)], r.Recs) || len(rest) < 2 || rest[1].Kind != impl.KFeed {
				t.Fatalf("run %d, %v with %v: %s\nis not the beginning of %s", k, p, more, told(r), told(after))
			}
			switch {
			case !state.chans[c].closed && len(state.takers(c)) > 0:
				on++
				if len(rest) < 3 || rest[2].Kind != impl.KTurn || rest[2].Task != state.takers(c)[0].number {
					t.Fatalf("run %d, %v with %v: it does not go on: %s", k, p, more, told(after))
				}
			case taking:
				t.Fatalf("run %d, %v with %v: somebody takes at %d: %s", k, p, in, c, toldStuck(stuck))
			default:
				off++
				if again := impl.StuckAt(p, more); len(rest) != 2 || after.Code != 1 || !slices.Equal(again, stuck) {
					t.Fatalf("run %d, %v with %v: nobody takes at %d: %s, was %s", k, p, more, c, toldStuck(again), toldStuck(stuck))
				}
			}
		}
	}
	if on < 300 || off < 300 {
		t.Errorf("somebody took %d times, nobody %d times only", on, off)
	}
}

// P8, P9: nothing is written into an argument, the answers are new memory, and the same argument has the same answers.
func TestStuckIsNotWritten(t *testing.T) {
	d := &dice{state: 92}
	told := 0
	for k := range 300 {
		p, in := randomStandstill(d)
		if k%10 == 0 {
			p.Bodies[0].Steps = append(p.Bodies[0].Steps, badStep)
		}
		p, in.Feed = sparePlan(p), withSpare(in.Feed)
		plan, events := wholePlan(p), whole(in.Feed)
		stuck, ring := impl.StuckAt(p, in), impl.RingAt(p, in)
		keptStuck, keptRing := slices.Clone(stuck), slices.Clone(ring)
		againStuck, againRing := impl.StuckAt(p, in), impl.RingAt(p, in)
		for k := range againStuck {
			againStuck[k].What = -7
		}
		for k := range againRing {
			againRing[k] = -7
		}
		if !slices.Equal(stuck, keptStuck) || !slices.Equal(ring, keptRing) {
			t.Fatalf("run %d: two answers share memory: %v, %v", k, stuck, ring)
		}
		if !slices.Equal(impl.StuckAt(p, in), keptStuck) || !slices.Equal(impl.RingAt(p, in), keptRing) {
			t.Fatalf("run %d: another answer than %v, %v", k, keptStuck, keptRing)
		}
		told += len(ring)
		wantSamePlan(t, p, plan)
		if !reflect.DeepEqual(whole(in.Feed), events) {
			t.Fatalf("run %d: the feed was written into: %v, was %v", k, in.Feed, events)
		}
	}
	if told < 50 {
		t.Errorf("rings had %d tasks in all only", told)
	}
}

// P8, P9: calls at one time do not see each other.
func TestStuckAtOneTime(t *testing.T) {
	d := &dice{state: 93}
	for range 40 {
		p, in := randomStandstill(d)
		stuck := plainStuck(p, in)
		ring := plainRing(stuck)
		gotStuck, gotRing := make([][]impl.Stuck, 8), make([][]int, 8)
		var all sync.WaitGroup
		for k := range 8 {
			all.Go(func() { gotStuck[k] = impl.StuckAt(p, in) })
			all.Go(func() { gotRing[k] = impl.RingAt(p, in) })
		}
		all.Wait()
		for k := range 8 {
			if !slices.Equal(gotStuck[k], stuck) || !slices.Equal(gotRing[k], ring) {
				t.Fatalf("%v with %v: %v, %v, not %v, %v", p, in, gotStuck[k], gotRing[k], stuck, ring)
			}
		}
	}
}

// P8, P9: no goroutine is left behind, however the run ends.
func TestStuckLeavesNoGoroutine(t *testing.T) {
	d := &dice{state: 94}
	for range 300 {
		p, in := randomRun(d)
		impl.StuckAt(p, in)
		impl.RingAt(p, in)
	}
	impl.StuckAt(impl.Plan{}, impl.Input{})
	impl.RingAt(impl.Plan{}, impl.Input{})
	wantNoGoroutine(t)
	defer runtime.GOMAXPROCS(runtime.GOMAXPROCS(1))
	p := planWith(100, rooms(0), append(slices.Repeat(steps{spawn(0, 1)}, 49), take(0, 0)), steps{take(0, 0)})
	for range 20 {
		before := runtime.NumGoroutine()
		stuck, ring := impl.StuckAt(p, feed()), impl.RingAt(p, feed())
		if left := runtime.NumGoroutine() - before; left > 3 {
			t.Fatalf("%d goroutines are left when the call answers", left)
		}
		if len(stuck) != 50 || len(ring) != 0 {
			t.Fatalf("%s, %v", toldStuck(stuck), ring)
		}
	}
}
