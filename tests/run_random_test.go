package tests

import (
	"fmt"
	"testing"

	"loop.example/beat/impl"
)

// randomRun makes a plan and an input that are valid, with few channels and small numbers, so that tasks meet often.
func randomRun(d *dice) (impl.Plan, impl.Input) {
	p := impl.Plan{Slice: 1 + d.below(7)}
	if d.below(4) == 0 {
		p.Slice = 100
	}
	for range 1 + d.below(3) {
		p.Rooms = append(p.Rooms, d.below(3))
	}
	bodies := 1 + d.below(5)
	for b := range bodies {
		s := steps{}
		for range d.below(5) {
			if b == 0 || d.below(8) == 0 {
				s = append(s, spawn(d.below(4), d.below(bodies)))
			}
		}
		s = append(s, randomPhrases(d, bodies, len(p.Rooms), 1+d.below(6), 0)...)
		p.Bodies = append(p.Bodies, impl.Body{Steps: s[:min(len(s), 200)]})
	}
	return p, randomInput(d, len(p.Rooms))
}

func randomInput(d *dice, chans int) impl.Input {
	in := impl.Input{Ticks: 500, Until: 1000}
	if d.below(4) == 0 {
		in.Ticks = d.below(60)
	}
	if d.below(4) == 0 {
		in.Until = int64(d.below(8))
	}
	at := int64(0)
	for range d.below(7) {
		at += int64(d.below(3))
		in.Feed = append(in.Feed, event(at, d.below(chans), int64(100+d.below(100))))
	}
	return in
}

func randomPhrases(d *dice, bodies, chans, n, deep int) steps {
	var out steps
	for range n {
		if d.below(6) == 0 && deep < 3 {
			r := d.below(4)
			inner := randomPhrases(d, bodies, chans, d.below(4), deep+1)
			head := loop(r, len(inner))
			if d.below(2) == 0 {
				head = when(r, len(inner))
			}
			out = append(out, set(r, int64(d.below(5)-1)), head)
			out = append(out, inner...)
			continue
		}
		out = append(out, randomPhrase(d, bodies, chans)...)
	}
	return out
}

func randomPhrase(d *dice, bodies, chans int) steps {
	r, c, small := d.below(4), d.below(chans), int64(d.below(5))
	var out steps
	switch d.below(14) {
	case 0, 1, 2:
		out = steps{set(r, int64(d.below(90))), send(r, c)}
	case 3, 4:
		out = steps{take(r, c), say(r), say(3)}
	case 5:
		out = steps{takeFor(r, c, small), say(r), say(3)}
	case 6, 7:
		out = steps{pick(r, c, int64(d.below(chans))), say(r), say(3)}
	case 8:
		if d.below(2) == 0 {
			out = steps{shut(c)}
		}
	case 9:
		out = steps{set(r, small-int64(d.below(20)/19)), sleep(r), now(r), say(r)}
	case 10:
		out = steps{set(r, int64(d.below(7))-1), wait(r), say(r), say(3)}
	case 11:
		if d.below(3) > 0 {
			return nil
		}
		out = steps{spawn(r, d.below(bodies)), say(r)}
		if d.below(2) == 0 {
			out = append(out, wait(r), say(3))
		}
	case 12:
		out = steps{add(r, d.below(4), small), yield()}
	case 13:
		if d.below(4) == 0 {
			out = steps{end()}
		}
	}
	return out
}

// P2: many runs against the plain form of the document, which must have met all that a run can show.
func TestRunAtRandom(t *testing.T) {
	d := &dice{state: 11}
	seen := map[string]int{}
	for k := range 8000 {
		p, in := randomRun(d)
		r := impl.RunPlan(p, in)
		wantPlain(t, fmt.Sprintf("run %d", k), p, in, r)
		if t.Failed() {
			return
		}
		seen[fmt.Sprint("code ", r.Code)]++
		for _, rec := range r.Recs {
			seen[fmt.Sprint("kind ", rec.Kind)]++
			if rec.Kind == impl.KFail {
				seen[fmt.Sprint("failure ", rec.Num)]++
			}
		}
		for _, s := range r.States {
			seen[fmt.Sprint("state ", s)]++
		}
	}
	for _, what := range []string{
		"code 0", "code 1", "code 2", "code 4",
		"kind 1", "kind 2", "kind 3", "kind 4", "kind 5", "kind 6",
		"failure 1", "failure 2", "failure 3", "failure 4", "failure 5",
		"state 0", "state 1", "state 2", "state 3", "state 4", "state 5", "state 6", "state 7",
	} {
		if seen[what] < 20 {
			t.Errorf("%s was met %d times only", what, seen[what])
		}
	}
}
