package tests

import (
	"cmp"
	"fmt"
	"reflect"
	"runtime"
	"slices"
	"strings"
	"sync"
	"testing"
	"time"

	"loop.example/beat/impl"
)

// P3: with fewer ticks a run is the beginning of the same run; with as many or more it is the same run.
func TestRunWithFewerTicks(t *testing.T) {
	d := &dice{state: 3}
	for k := range 60 {
		p, in := randomRun(d)
		in.Ticks = 400
		r := impl.RunPlan(p, in)
		for ticks := range r.Ticks {
			in.Ticks = ticks
			s := impl.RunPlan(p, in)
			if s.Code != 2 || s.Ticks != ticks || len(s.Recs) > len(r.Recs) || !reflect.DeepEqual(s.Recs, r.Recs[:len(s.Recs)]) {
				t.Fatalf("run %d, %v with %v: %s\nis not the beginning of %s", k, p, in, told(s), told(r))
			}
		}
		if r.Code == 2 {
			continue
		}
		for _, ticks := range []int{r.Ticks, r.Ticks + 1, 5000} {
			in.Ticks = ticks
			if s := impl.RunPlan(p, in); !reflect.DeepEqual(s, r) {
				t.Fatalf("run %d, %v with %v: %s\nis not %s", k, p, in, told(s), told(r))
			}
		}
	}
}

// P4: times ascend, change at KTime alone, and stay within Until.
func TestRunTimes(t *testing.T) {
	d := &dice{state: 4}
	changes := 0
	for k := range 1500 {
		p, in := randomRun(d)
		r := impl.RunPlan(p, in)
		last := int64(0)
		for _, rec := range r.Recs {
			if rec.Kind == impl.KTime {
				changes++
			}
			if rec.Kind == impl.KTime && rec.Time <= last || rec.Kind != impl.KTime && rec.Time != last || rec.Time > in.Until {
				t.Fatalf("run %d, %v with %v: %v in %s", k, p, in, rec, told(r))
			}
			last = rec.Time
		}
		if r.Time != last {
			t.Fatalf("run %d, %v with %v: at the end %d: %s", k, p, in, r.Time, told(r))
		}
	}
	if changes < 1000 {
		t.Errorf("time has changed %d times only", changes)
	}
}

// P5: tasks that never wait have their turns in a row; what is expected is counted from how much each has to do.
func TestRunTurnsInARow(t *testing.T) {
	d := &dice{state: 5}
	for range 300 {
		others := d.below(20)
		p := impl.Plan{Slice: 1 + d.below(10)}
		first := steps{}
		todo := []int{others + d.below(30)}
		for k := range others {
			first = append(first, spawn(0, k+1))
		}
		p.Bodies = []impl.Body{{Steps: append(first, says(todo[0]-others)...)}}
		for range others {
			n := d.below(30)
			todo = append(todo, n)
			p.Bodies = append(p.Bodies, impl.Body{Steps: says(n)})
		}
		r := impl.RunPlan(p, impl.Input{Ticks: 5000})
		if got, want := turnsOf(r), turnsInARow(todo, p.Slice); !slices.Equal(got, want) || r.Code != 0 || r.Time != 0 {
			t.Fatalf("%d others, %v, slice %d:\n got %v\nwant %v", others, todo, p.Slice, got, want)
		}
	}
}

func turnsOf(r impl.Report) []int {
	var turns []int
	for _, rec := range r.Recs {
		if rec.Kind == impl.KTurn {
			turns = append(turns, rec.Task)
		}
	}
	return turns
}

// turnsInARow has as many steps as todo says for each task; the first makes one of the others at each of its first steps.
func turnsInARow(todo []int, slice int) []int {
	row, turns, made := []int{0}, []int(nil), 1
	for len(row) > 0 {
		k := row[0]
		row = row[1:]
		turns = append(turns, k)
		n := min(slice, todo[k])
		todo[k] -= n
		for s := 0; k == 0 && s < n && made < len(todo); s++ {
			row = append(row, made)
			made++
		}
		if n == slice {
			row = append(row, k)
		}
	}
	return turns
}

// P5: tasks that only yield: nobody has two turns between two turns of another one.
func TestRunNobodyTwice(t *testing.T) {
	for slice := 1; slice <= 12; slice++ {
		for n := 1; n <= 19; n++ {
			p := planWith(slice, nil, append(slices.Repeat(steps{spawn(0, 1)}, n), yield(), yield()), steps{yield(), yield(), yield()})
			r := impl.RunPlan(p, feed())
			turns := turnsOf(r)
			at := map[int]int{}
			for i, k := range turns {
				before, had := at[k]
				if had {
					between := map[int]int{}
					for _, other := range turns[before+1 : i] {
						between[other]++
						if between[other] > 1 {
							t.Fatalf("slice %d, %d tasks: %d had two turns between those of %d: %v", slice, n, other, k, turns)
						}
					}
				}
				at[k] = i
			}
			if r.Code != 0 || len(at) != n+1 {
				t.Fatalf("slice %d, %d tasks: %s", slice, n, told(r))
			}
		}
	}
}

// P6: 1 to 19 tasks that sleep, twice each, wake by time and then by the order of asking.
func TestRunWakeInOrder(t *testing.T) {
	d := &dice{state: 6}
	for range 200 {
		for n := 1; n <= 19; n++ {
			p := impl.Plan{Slice: 1 + d.below(12), Bodies: make([]impl.Body, n+1)}
			var sleepers []sleepy
			for k := range n {
				s := sleepy{task: k + 1, first: int64(d.below(12)), second: int64(d.below(12))}
				sleepers = append(sleepers, s)
				p.Bodies[0].Steps = append(p.Bodies[0].Steps, spawn(0, k+1))
				p.Bodies[k+1].Steps = steps{set(0, s.first), sleep(0), say(1), set(0, s.second), sleep(0), say(2)}
			}
			r := impl.RunPlan(p, impl.Input{Ticks: 5000, Until: 30})
			if got, want := wokenOf(r), wakes(sleepers); !slices.Equal(got, want) || r.Code != 0 {
				t.Fatalf("slice %d, %v: %s\n got %v\nwant %v", p.Slice, sleepers, told(r), got, want)
			}
		}
	}
}

type sleepy struct {
	task          int
	first, second int64
}

type woken struct {
	time int64
	task int
}

// wokenOf tells who spoke at which time. Nobody speaks but who has just woken.
func wokenOf(r impl.Report) []woken {
	var out []woken
	for _, rec := range r.Recs {
		if rec.Kind == impl.KSay {
			out = append(out, woken{rec.Time, rec.Task})
		}
	}
	return out
}

// wakes sorts: all ask first at time 0, in their order; they ask again in the order in which they woke.
func wakes(sleepers []sleepy) []woken {
	again := slices.Clone(sleepers)
	slices.SortStableFunc(again, func(a, b sleepy) int { return cmp.Compare(a.first, b.first) })
	var out []woken
	for _, s := range sleepers {
		out = append(out, woken{s.first, s.task})
	}
	for _, s := range again {
		out = append(out, woken{s.first + s.second, s.task})
	}
	// A second sleep that is due at the time of its asking comes behind all that was due then.
	slices.SortStableFunc(out, func(a, b woken) int { return cmp.Compare(a.time, b.time) })
	return out
}

// P7: numbers through a channel of each room, at many slices, and through a row of channels.
func TestRunNumbersInOrder(t *testing.T) {
	for room := 0; room <= 10; room++ {
		for _, slice := range []int{1, 2, 3, 4, 5, 7, 9, 10, 11, 50, 99, 100} {
			for _, n := range []int64{0, 1, 2, 9, 10, 11, 12, 99, 100} {
				wantNumbers(t, fmt.Sprintf("room %d, slice %d", room, slice), planWith(slice, rooms(room), append(steps{spawn(0, 1)}, senderOf(n, 0)...), takerOf(n, 0)), n)
				wantNumbers(t, fmt.Sprintf("room %d, slice %d, who takes is first", room, slice), planWith(slice, rooms(room), append(steps{spawn(0, 1)}, takerOf(n, 0)...), senderOf(n, 0)), n)
				relay := steps{set(0, n), loop(0, 2), take(1, 0), send(1, 1)}
				wantNumbers(t, fmt.Sprintf("rooms %d and %d, slice %d", room, 10-room, slice), planWith(slice, rooms(room, 10-room), append(steps{spawn(0, 1), spawn(0, 2)}, takerOf(n, 1)...), senderOf(n, 0), relay), n)
			}
		}
	}
}

func senderOf(n int64, c int) steps {
	return steps{set(0, n), loop(0, 2), add(1, 1, 1), send(1, c)}
}

func takerOf(n int64, c int) steps {
	return steps{set(0, n), loop(0, 2), take(1, c), say(1)}
}

func wantNumbers(t *testing.T, name string, p impl.Plan, n int64) {
	t.Helper()
	r := impl.RunPlan(p, impl.Input{Ticks: 5000})
	said := saidOf(r)
	for k, num := range said {
		if num != int64(k)+1 {
			t.Fatalf("%s, %d numbers: number %d is %d", name, n, k, num)
		}
	}
	if r.Code != 0 || int64(len(said)) != n {
		t.Fatalf("%s, %d numbers: %d came out: %s", name, n, len(said), told(r))
	}
}

func saidOf(r impl.Report) []int64 {
	var said []int64
	for _, rec := range r.Recs {
		if rec.Kind == impl.KSay {
			said = append(said, rec.Num)
		}
	}
	return said
}

// P7: what comes from outside goes through a channel in order too.
func TestRunEventsInOrder(t *testing.T) {
	d := &dice{state: 8}
	for room := 0; room <= 10; room++ {
		for slice := 1; slice <= 30; slice++ {
			in := impl.Input{Ticks: 5000, Until: 1000}
			at := int64(0)
			for k := range 100 {
				at += int64(d.below(3) / 2)
				in.Feed = append(in.Feed, event(at, 0, int64(k+1)))
			}
			r := impl.RunPlan(planWith(slice, rooms(room), steps{set(2, int64(d.below(40))), sleep(2), set(0, 100), loop(0, 2), take(1, 0), say(1)}), in)
			for k, num := range saidOf(r) {
				if num != int64(k)+1 {
					t.Fatalf("room %d, slice %d: number %d is %d", room, slice, k, num)
				}
			}
			if r.Code != 0 || len(saidOf(r)) != 100 {
				t.Fatalf("room %d, slice %d: %s", room, slice, told(r))
			}
		}
	}
}

// P7: several send and several take: each number comes out once, and those of one who sends in their order.
func TestRunManySendAndTake(t *testing.T) {
	for room := 0; room <= 10; room++ {
		for slice := 1; slice <= 20; slice++ {
			var first steps
			bodies := []steps{nil, takerOf(20, 0)}
			for k := range 5 {
				first = append(first, spawn(0, k+2), spawn(0, 1))
				bodies = append(bodies, append(steps{set(1, int64(k)*100)}, senderOf(20, 0)...))
			}
			bodies[0] = first
			r := impl.RunPlan(planWith(slice, rooms(room), bodies...), impl.Input{Ticks: 5000})
			said := saidOf(r)
			slices.Sort(said)
			var want []int64
			for k := range 100 {
				want = append(want, int64(k/20*100+k%20+1))
			}
			if r.Code != 0 || !slices.Equal(said, want) {
				t.Fatalf("room %d, slice %d: %v", room, slice, said)
			}
			wantAscending(t, r)
		}
	}
}

// wantAscending looks at each taker: what it got of one who sends must ascend.
func wantAscending(t *testing.T, r impl.Report) {
	t.Helper()
	type way struct {
		taker  int
		sender int64
	}
	last := map[way]int64{}
	for _, rec := range r.Recs {
		if rec.Kind != impl.KSay {
			continue
		}
		w := way{rec.Task, rec.Num / 100}
		if rec.Num <= last[w] {
			t.Fatalf("task %d got %d behind %d: %s", rec.Task, rec.Num, last[w], told(r))
		}
		last[w] = rec.Num
	}
}

// P2: nothing is written into an argument, behind the end of its lists neither, and the same argument has the same answer.
func TestRunIsNotWritten(t *testing.T) {
	d := &dice{state: 9}
	for k := range 300 {
		p, in := randomRun(d)
		if k%10 == 0 {
			p.Bodies[0].Steps = append(p.Bodies[0].Steps, badStep)
		}
		p, in.Feed = sparePlan(p), withSpare(in.Feed)
		plan, events := wholePlan(p), whole(in.Feed)
		first := impl.RunPlan(p, in)
		kept := impl.Report{Code: first.Code, Recs: slices.Clone(first.Recs), Time: first.Time, Ticks: first.Ticks, States: slices.Clone(first.States)}
		second := impl.RunPlan(p, in)
		if !reflect.DeepEqual(first, kept) || !reflect.DeepEqual(second, kept) {
			t.Fatalf("run %d: %s, then %s, was %s", k, told(second), told(first), told(kept))
		}
		wantSamePlan(t, p, plan)
		if !reflect.DeepEqual(whole(in.Feed), events) {
			t.Fatalf("run %d: the feed was written into: %v, was %v", k, in.Feed, events)
		}
	}
}

// P2: runs at one time do not see each other.
func TestRunsAtOneTime(t *testing.T) {
	d := &dice{state: 10}
	for range 20 {
		p, in := randomRun(d)
		want := plainRun(p, in)
		got := make([]impl.Report, 16)
		var all sync.WaitGroup
		for k := range got {
			all.Go(func() { got[k] = impl.RunPlan(p, in) })
		}
		all.Wait()
		for _, r := range got {
			if !reflect.DeepEqual(r, want) {
				t.Fatalf("%v with %v: %s, not %s", p, in, told(r), told(want))
			}
		}
	}
}

// P2: no goroutine is left behind, however a run ends.
func TestRunLeavesNoGoroutine(t *testing.T) {
	d := &dice{state: 12}
	codes := map[int]int{}
	for range 400 {
		r := impl.RunPlan(randomRun(d))
		codes[r.Code]++
	}
	impl.RunPlan(impl.Plan{}, impl.Input{})
	if len(codes) != 4 {
		t.Errorf("not all ends of runs were met: %v", codes)
	}
	wantNoGoroutine(t)
}

func wantNoGoroutine(t *testing.T) {
	t.Helper()
	// A goroutine that has said that it is done may need a moment to be gone.
	for range 200 {
		if goroutinesOfImpl() == 0 {
			return
		}
		time.Sleep(10 * time.Millisecond)
	}
	t.Errorf("%d goroutines are left", goroutinesOfImpl())
}

// P2: the goroutines have ended when the call answers. With one processor nobody runs between that and the look at them,
// but the last ones may have been stopped on their very last way.
func TestRunWaitsForItsGoroutines(t *testing.T) {
	defer runtime.GOMAXPROCS(runtime.GOMAXPROCS(1))
	p := planWith(100, rooms(0), append(slices.Repeat(steps{spawn(0, 1)}, 49), take(0, 0)), steps{take(0, 0)})
	for range 20 {
		before := runtime.NumGoroutine()
		r := impl.RunPlan(p, feed())
		if left := runtime.NumGoroutine() - before; left > 3 {
			t.Fatalf("%d goroutines are left when the call answers", left)
		}
		if r.Code != 1 || len(r.States) != 50 {
			t.Fatal(told(r))
		}
	}
}

func goroutinesOfImpl() int {
	all := make([]byte, 1<<24)
	all = all[:runtime.Stack(all, true)]
	count := 0
	for _, one := range strings.Split(string(all), "\n\n") {
		if strings.Contains(one, "created by loop.example/beat/impl") {
			count++
		}
	}
	return count
}
