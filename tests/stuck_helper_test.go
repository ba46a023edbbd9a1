package tests

import (
	"fmt"
	"slices"
	"strings"
	"testing"

	"loop.example/beat/impl"
)

// toldStuck writes who is stuck as a short text: 0w1 task 0 waits for task 1, 2s3 task 2 sends at channel 3, 4t5 task 4 takes at channel 5.
func toldStuck(stuck []impl.Stuck) string {
	letters := map[int]string{impl.SWaiting: "w", impl.SSending: "s", impl.STaking: "t"}
	var out []string
	for _, s := range stuck {
		letter := letters[s.State]
		if letter == "" {
			letter = fmt.Sprintf("!state %d!", s.State)
		}
		out = append(out, fmt.Sprint(s.Task)+letter+fmt.Sprint(s.What))
	}
	return strings.Join(out, " ")
}

func toldRing(ring []int) string { return strings.Trim(fmt.Sprint(ring), "[]") }

// stuckCase is a run, the code with which it ends, who is stuck then, and the ring, worked out by hand from the document.
type stuckCase struct {
	name  string
	p     impl.Plan
	in    impl.Input
	code  int
	stuck string
	ring  string
}

func wantStuck(t *testing.T, cases []stuckCase) {
	t.Helper()
	for _, c := range cases {
		if f := impl.PlanOk(c.p); f.Code != 0 || !impl.InputOk(c.p, c.in) {
			t.Errorf("%s: the case itself is not valid: %v", c.name, f)
		}
		if r := impl.RunPlan(c.p, c.in); r.Code != c.code {
			t.Errorf("%s: the code is not %d: %s", c.name, c.code, told(r))
		}
		if got := toldStuck(impl.StuckAt(c.p, c.in)); got != c.stuck {
			t.Errorf("%s: stuck\n got %s\nwant %s", c.name, got, c.stuck)
		}
		if got := toldRing(impl.RingAt(c.p, c.in)); got != c.ring {
			t.Errorf("%s: the ring\n got %s\nwant %s", c.name, got, c.ring)
		}
		wantPlainStuck(t, c.name, c.p, c.in)
	}
}

// wantPlainStuck holds who is stuck, and the ring, against the plain form of the document. It answers these.
func wantPlainStuck(t *testing.T, name string, p impl.Plan, in impl.Input) ([]impl.Stuck, []int) {
	t.Helper()
	want := plainStuck(p, in)
	if got := impl.StuckAt(p, in); !slices.Equal(got, want) {
		t.Errorf("%s: %v with %v: stuck\n  got %s\nplain %s", name, p, in, toldStuck(got), toldStuck(want))
	}
	ring := plainRing(want)
	if got := impl.RingAt(p, in); !slices.Equal(got, ring) {
		t.Errorf("%s: %v with %v: %s: the ring\n  got %v\nplain %v", name, p, in, toldStuck(want), got, ring)
	}
	return want, ring
}

// plainStuck tells what each one asked for, from the plain form of chapter 2.
func plainStuck(p impl.Plan, in impl.Input) []impl.Stuck {
	r, code := plainEnd(p, in)
	if code != 1 {
		return nil
	}
	var out []impl.Stuck
	for _, t := range r.tasks {
		s := impl.Stuck{Task: t.number, State: t.state, What: t.ask.B}
		switch t.state {
		case impl.SEnded, impl.SFailed:
			continue
		case impl.SWaiting:
			s.What = int(t.num)
		case impl.STaking:
			if r.chans[s.What].closed {
				s.What = int(t.ask.N)
			}
		}
		out = append(out, s)
	}
	return out
}

// plainRing strikes out who waits for no task, or for one who is struck out; then whom nobody waits for who is left.
// Those who are left after that stand in rings.
func plainRing(stuck []impl.Stuck) []int {
	whom := map[int]int{}
	for _, s := range stuck {
		if s.State == impl.SWaiting {
			whom[s.Task] = s.What
		}
	}
	for range stuck {
		for k, other := range whom {
			if _, left := whom[other]; !left {
				delete(whom, k)
			}
		}
	}
	for range stuck {
		awaited := map[int]bool{}
		for _, other := range whom {
			awaited[other] = true
		}
		for k := range whom {
			if !awaited[k] {
				delete(whom, k)
			}
		}
	}
	if len(whom) == 0 {
		return nil
	}
	first := 1000
	for k := range whom {
		first = min(first, k)
	}
	ring := []int{first}
	for k := whom[first]; k != first; k = whom[k] {
		ring = append(ring, k)
	}
	return ring
}

const nobody = -1

// waitingPlan makes a task for each of whom, which waits for that task, or for nobody: then it ends.
// They sleep first, so that all of them are there at any slice.
func waitingPlan(slice int, whom ...int) impl.Plan {
	var bodies []steps
	for _, other := range whom {
		body := steps{set(0, 1), sleep(0)}
		if other != nobody {
			body = append(body, set(0, int64(other)), wait(0))
		}
		bodies = append(bodies, body)
	}
	var first steps
	for k := 1; k < len(whom); k++ {
		first = append(first, spawn(0, k))
	}
	bodies[0] = append(first, bodies[0]...)
	return planWith(slice, nil, bodies...)
}
