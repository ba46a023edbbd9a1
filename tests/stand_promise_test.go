package tests

import (
	"fmt"
	"slices"
	"testing"

	"loop.example/beat/impl"
)

// randomStands makes a run that is mostly short, as a look at each of its records runs it once more.
func randomStands(d *dice) (impl.Plan, impl.Input) {
	random := randomRun
	if d.below(2) == 0 {
		random = randomStandstill
	}
	p, in := random(d)
	if d.below(50) > 0 {
		in.Ticks = min(in.Ticks, 90)
	}
	return p, in
}

// P10: at every record of many runs, against the plain form of the document, which must have met all that can stand.
func TestStandAtRandom(t *testing.T) {
	d := &dice{state: 100}
	seen := map[string]int{}
	for k := range 2500 {
		p, in := randomStands(d)
		recs, stands := wantPlainStands(t, fmt.Sprintf("run %d", k), p, in)
		if t.Failed() {
			return
		}
		for n := range stands {
			countStand(seen, recs[n], stands[n])
			if n > 0 {
				countLeft(seen, stands[n-1], stands[n])
			}
		}
	}
	for _, what := range []string{
		"kind 1", "kind 2", "kind 3", "kind 4", "kind 5", "kind 6",
		"a row of 0", "a row of 1", "a row of 2", "a row of 3",
		"state 0", "state 1", "state 2", "state 3", "state 4", "state 5", "state 6", "state 7",
		"closed with numbers", "several send", "several take", "one in two lines",
		"the world outside ahead of a task", "the world outside behind a task", "a failure by another one",
		"left two lines at once", "left one of two lines",
	} {
		if seen[what] < 30 {
			t.Errorf("%s was met %d times only", what, seen[what])
		}
	}
}

func countStand(seen map[string]int, rec impl.Rec, s impl.Stand) {
	seen[fmt.Sprint("kind ", rec.Kind)]++
	seen[fmt.Sprint("a row of ", min(len(s.Ready), 3))]++
	for _, state := range s.States {
		seen[fmt.Sprint("state ", state)]++
	}
	if rec.Kind == impl.KFail && s.States[rec.Task] == impl.SSending {
		seen["a failure by another one"]++
	}
	for _, h := range s.Chans {
		if h.Closed && len(h.Nums) > 0 {
			seen["closed with numbers"]++
		}
		if len(h.Senders) > 1 {
			seen["several send"]++
		}
		if len(h.Takers) > 1 {
			seen["several take"]++
		}
		for k := 1; k < len(h.Senders); k++ {
			if h.Senders[k-1] == -1 && h.Senders[k] >= 0 {
				seen["the world outside ahead of a task"]++
			}
			if h.Senders[k-1] >= 0 && h.Senders[k] == -1 {
				seen["the world outside behind a task"]++
			}
		}
	}
	for task := range s.States {
		if linesOf(s, task) == 2 {
			seen["one in two lines"]++
		}
	}
}

func countLeft(seen map[string]int, before, after impl.Stand) {
	for task := range before.States {
		if linesOf(before, task) != 2 {
			continue
		}
		switch linesOf(after, task) {
		case 0:
			seen["left two lines at once"]++
		case 1:
			seen["left one of two lines"]++
		}
	}
}

// linesOf counts the lines of those who take in which a task stands.
func linesOf(s impl.Stand, task int) int {
	lines := 0
	for _, h := range s.Chans {
		for _, k := range h.Takers {
			if k == task {
				lines++
			}
		}
	}
	return lines
}

// P10: what must hold at every record, whatever the plan: told from the words of the document, without a second form of it.
func TestStandHoldsTogether(t *testing.T) {
	d := &dice{state: 101}
	for k := range 1200 {
		p, in := randomStands(d)
		r := impl.RunPlan(p, in)
		for n, rec := range r.Recs {
			s := impl.StandAt(p, in, n)
			if fault := standFault(p, rec, s); fault != "" {
				t.Fatalf("run %d, %v with %v: %s at record %d %s: %s", k, p, in, fault, n, toldRec(rec), toldStand(s))
			}
		}
	}
}

func standFault(p impl.Plan, rec impl.Rec, s impl.Stand) string {
	switch {
	case !s.Ok:
		return "nothing"
	case s.Time != rec.Time:
		return "another time"
	case len(s.Regs) != len(s.States) || len(s.Chans) != len(p.Rooms):
		return "not all"
	}
	if fault := recordFault(rec, s); fault != "" {
		return fault
	}
	running := 0
	for task, state := range s.States {
		if state == impl.SRunning {
			running++
		}
		if (state == impl.SReady) != slices.Contains(s.Ready, task) {
			return fmt.Sprintf("%d ready or in the row, not both", task)
		}
	}
	outside := rec.Kind == impl.KTime || rec.Kind == impl.KFeed
	if outside && running != 0 || !outside && running != 1 {
		return "not one who runs"
	}
	row := slices.Sorted(slices.Values(s.Ready))
	if len(slices.Compact(row)) != len(s.Ready) {
		return "one twice in the row"
	}
	return lineFault(p, rec, s)
}

// recordFault is what the document says of each kind of record.
func recordFault(rec impl.Rec, s impl.Stand) string {
	switch rec.Kind {
	case impl.KTurn, impl.KEnd:
		if s.States[rec.Task] != impl.SRunning {
			return "who does not run"
		}
	case impl.KSay:
		if s.States[rec.Task] != impl.SRunning || !slices.Contains(s.Regs[rec.Task], rec.Num) {
			return "who says what it has not"
		}
	case impl.KFail:
		if state := s.States[rec.Task]; state != impl.SRunning && (rec.Num != 4 || state != impl.SSending) {
			return "who is not as it was"
		}
	case impl.KTime:
		if len(s.Ready) > 0 {
			return "somebody ready"
		}
	}
	return ""
}

func lineFault(p impl.Plan, rec impl.Rec, s impl.Stand) string {
	lines := make([]int, len(s.States))
	for c, h := range s.Chans {
		switch {
		case len(h.Nums) > p.Rooms[c]:
			return "too many numbers"
		case h.Closed && len(h.Senders)+len(h.Takers) > 0:
			return "a line at a closed one"
		case len(h.Takers) > 0 && len(h.Nums)+len(h.Senders) > 0:
			return "one who takes where something is"
		case len(h.Senders) > 0 && len(h.Nums) < p.Rooms[c]:
			return "one who sends where there is room"
		}
		for _, k := range h.Senders {
			if k < -1 || k >= 0 && s.States[k] != impl.SSending {
				return "one who does not send"
			}
			if k >= 0 {
				lines[k]++
			}
		}
		for _, k := range h.Takers {
			if k < 0 || s.States[k] != impl.STaking {
				return "one who does not take"
			}
			lines[k]++
		}
	}
	for task, state := range s.States {
		waits := state == impl.SSending || state == impl.STaking
		// Those who fail by a BClose stand in no line any more while others fail ahead of them.
		gone := rec.Kind == impl.KFail && rec.Num == 4 && state == impl.SSending
		most := 1
		if state == impl.STaking {
			most = 2
		}
		if lines[task] > most || !gone && waits != (lines[task] > 0) {
			return fmt.Sprintf("%d in %d lines", task, lines[task])
		}
	}
	return ""
}

// P10: with fewer ticks, and with less time, the first records are the same ones, and so is what stands at them.
func TestStandWithFewerTicks(t *testing.T) {
	d := &dice{state: 102}
	for k := range 30 {
		p, in := randomRun(d)
		in.Ticks, in.Until = 60, 100
		recs, stands := plainStands(p, in)
		for ticks := range 60 {
			in.Ticks = ticks
			for n, rec := range impl.RunPlan(p, in).Recs {
				if got := impl.StandAt(p, in, n); rec != recs[n] || !sameStand(got, stands[n]) {
					t.Fatalf("run %d, %v with %v: record %d: %s, not %s", k, p, in, n, toldStand(got), toldStand(stands[n]))
				}
			}
		}
		in.Ticks = 60
		for until := range int64(10) {
			in.Until = until
			for n, rec := range impl.RunPlan(p, in).Recs {
				if got := impl.StandAt(p, in, n); rec != recs[n] || !sameStand(got, stands[n]) {
					t.Fatalf("run %d, %v with %v: record %d: %s, not %s", k, p, in, n, toldStand(got), toldStand(stands[n]))
				}
			}
		}
	}
}

// P10: all that there can be: 50 tasks, 10 channels, 100 events.
func TestStandOfTheGreatest(t *testing.T) {
	var events []impl.Event
	for k := range 100 {
		events = append(events, event(int64(k/10), k%10, int64(k)))
	}
	in := impl.Input{Feed: events, Ticks: 5000, Until: 1000}
	first := steps{set(1, 49), loop(1, 1), spawn(0, 1), set(1, 3), sleep(1), pick(0, 0, 9), say(0), shut(0), shut(9)}
	p := planWith(100, []int{0, 1, 2, 3, 4, 5, 6, 7, 8, 10}, first, steps{pick(0, 3, 4), send(0, 9), send(0, 0), take(2, 5)})
	recs, stands := wantPlainStands(t, "the greatest", p, in)
	if last := stands[len(stands)-1]; len(last.States) != 50 || len(last.Chans) != 10 || len(recs) < 200 {
		t.Errorf("%d records, at the last %s", len(recs), toldStand(last))
	}
}
