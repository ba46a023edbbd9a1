package tests

import (
	"fmt"
	"math"
	"strings"
	"testing"

	"loop.example/beat/impl"
)

// wantAnswers holds the texts that tell runs against those worked out by hand.
func wantAnswers(t *testing.T, cases []runCase) {
	t.Helper()
	for _, c := range cases {
		if got := impl.Answer(c.p, c.in); got != c.want {
			t.Errorf("%s:\n got %q\nwant %q", c.name, got, c.want)
		}
		wantPlainAnswer(t, c.name, c.p, c.in)
	}
}

// wantPlainAnswer holds an answer against what RunPlan and RingAt tell, and against the plain forms of these.
func wantPlainAnswer(t *testing.T, name string, p impl.Plan, in impl.Input) {
	t.Helper()
	got := impl.Answer(p, in)
	if want := plainAnswer(impl.RunPlan(p, in), impl.RingAt(p, in)); got != want {
		t.Errorf("%s: %v with %v: the answer is not what RunPlan and RingAt tell:\n got %q\nwant %q", name, p, in, got, want)
	}
	if impl.PlanOk(p).Code != 0 || !impl.InputOk(p, in) {
		return
	}
	if want := plainAnswer(plainRun(p, in), plainRing(plainStuck(p, in))); got != want {
		t.Errorf("%s: %v with %v:\n  got %q\nplain %q", name, p, in, got, want)
	}
}

func plainAnswer(r impl.Report, ring []int) string {
	kinds := map[int]string{1: "turn", 2: "say", 3: "end", 4: "fail", 5: "time", 6: "feed"}
	out := ""
	for _, rec := range r.Recs {
		out += fmt.Sprintf("%d %d %s %d\n", rec.Time, rec.Task, kinds[rec.Kind], rec.Num)
	}
	switch r.Code {
	case 0:
		out += "over"
	case 1:
		out += "standstill"
		for _, task := range ring {
			out += fmt.Sprintf(" %d", task)
		}
	case 2:
		out += "no more ticks"
	case 3:
		out += "no plan"
	case 4:
		out += "no more time"
	}
	return out + "\n"
}

// P11: the last line, by the code of the run.
func TestAnswerAtEachCode(t *testing.T) {
	ring := "0 0 turn 0\n"
	for k := 1; k < 12; k++ {
		ring += fmt.Sprintf("0 %d turn 0\n", k)
	}
	ring += "1 -1 time 0\n"
	for k := range 12 {
		ring += fmt.Sprintf("1 %d turn 0\n", k)
	}
	wantAnswers(t, []runCase{
		{"over", planWith(9, nil, steps{}), feed(), "0 0 turn 0\n0 0 end 0\nover\n"},
		{"over by a failure", planWith(9, nil, failing), feed(), "0 0 turn 0\n0 0 fail 2\nover\n"},
		{"a standstill without a ring", planWith(9, rooms(0), steps{take(0, 0)}), feed(), "0 0 turn 0\nstandstill\n"},
		{"one who waits for one who takes", planWith(9, rooms(0), steps{spawn(0, 1), wait(0)}, steps{take(0, 0)}), feed(), "0 0 turn 0\n0 1 turn 0\nstandstill\n"},
		{"a ring of one", planWith(9, nil, steps{wait(0)}), feed(), "0 0 turn 0\nstandstill 0\n"},
		{"a ring of two", planWith(9, nil, steps{spawn(0, 1), wait(0)}, steps{wait(0)}), feed(), "0 0 turn 0\n0 1 turn 0\nstandstill 0 1\n"},
		{"a ring of three among others, from its least on", waitingPlan(100, 3, 2, 3, 1), feed(),
			"0 0 turn 0\n0 1 turn 0\n0 2 turn 0\n0 3 turn 0\n1 -1 time 0\n1 0 turn 0\n1 1 turn 0\n1 2 turn 0\n1 3 turn 0\nstandstill 1 2 3\n"},
		{"a ring of twelve, the other way round", waitingPlan(100, 11, 0, 1, 2, 3, 4, 5, 6, 7, 8, 9, 10), feed(), ring + "standstill 0 11 10 9 8 7 6 5 4 3 2 1\n"},
		{"no more ticks", planWith(9, nil, says(2)), withTicks(1), "0 0 turn 0\n0 0 say 0\nno more ticks\n"},
		{"no ticks at all", planWith(9, nil, says(2)), withTicks(0), "0 0 turn 0\nno more ticks\n"},
		{"no ticks, and none needed", planWith(9, nil, steps{}), withTicks(0), "0 0 turn 0\n0 0 end 0\nover\n"},
		{"no more ticks, though there would be a ring", planWith(1, nil, steps{spawn(0, 1), wait(0), say(0)}, steps{wait(0), say(0)}), withTicks(2), "0 0 turn 0\n0 1 turn 0\n0 0 turn 0\nno more ticks\n"},
		{"no more time", planWith(9, nil, steps{set(0, 6), sleep(0)}), until(5), "0 0 turn 0\nno more time\n"},
		{"no more time, with a ring", planWith(9, rooms(0), steps{wait(0)}), until(5, event(6, 0, 1)), "0 0 turn 0\nno more time\n"},
		{"in time, with a ring", planWith(9, rooms(0), steps{wait(0)}), until(6, event(6, 0, 1)), "0 0 turn 0\n6 -1 time 0\n6 -1 feed 1\nstandstill 0\n"},
	})
}

// P11: where the plan or the input is not valid there is no record at all, and one line.
func TestAnswerWithoutAPlan(t *testing.T) {
	for _, c := range notValid() {
		wantAnswers(t, []runCase{{c.name, c.p, c.in, "no plan\n"}})
	}
}

// P11: a line for each kind of record, and numbers of all sizes.
func TestAnswerOfRecords(t *testing.T) {
	wantAnswers(t, []runCase{
		{"all kinds", planWith(9, rooms(0), steps{spawn(1, 1), take(0, 0), say(0), set(2, 3), sleep(2), shut(0), shut(0)}, steps{end()}), feed(event(7, 0, 42)),
			"0 0 turn 0\n0 1 turn 0\n0 1 end 0\n7 -1 time 0\n7 -1 feed 42\n7 0 turn 0\n7 0 say 42\n10 -1 time 0\n10 0 turn 0\n10 0 fail 5\nover\n"},
		{"below 0", planWith(9, rooms(0), steps{set(0, -1), say(0), set(0, -10), say(0)}), feed(event(0, 0, -7)),
			"0 0 turn 0\n0 0 say -1\n0 0 say -10\n0 0 end 0\n0 -1 feed -7\nover\n"},
		{"the greatest and the least", planWith(9, rooms(0), steps{set(0, math.MaxInt64), say(0), set(0, math.MinInt64), say(0)}), until(1000000, event(999999, 0, math.MinInt64), event(1000000, 0, math.MaxInt64)),
			"0 0 turn 0\n0 0 say 9223372036854775807\n0 0 say -9223372036854775808\n0 0 end 0\n" +
				"999999 -1 time 0\n999999 -1 feed -9223372036854775808\n1000000 -1 time 0\n1000000 -1 feed 9223372036854775807\nover\n"},
		{"failures", planWith(9, rooms(0), steps{spawn(0, 1), spawn(0, 2), spawn(0, 2), yield(), shut(0)}, steps{set(0, 9), wait(0)}, steps{send(0, 0)}), feed(),
			"0 0 turn 0\n0 1 turn 0\n0 1 fail 3\n0 2 turn 0\n0 3 turn 0\n0 0 turn 0\n0 2 fail 4\n0 3 fail 4\n0 0 end 0\nover\n"},
	})
	all := impl.Answer(planWith(100, nil, steps{set(1, 50), loop(1, 1), spawn(0, 1)}, nil), feed())
	if !strings.Contains(all, "\n0 49 end 0\n") || !strings.HasSuffix(all, "\n0 0 fail 1\nover\n") || strings.Count(all, "\n") != 102 {
		t.Errorf("50 tasks: %q", all)
	}
}

// P11: many runs, against what RunPlan and RingAt answer, and against the plain form of the document.
func TestAnswerAtRandom(t *testing.T) {
	d := &dice{state: 110}
	seen := map[string]int{}
	for k := range 5000 {
		random := randomRun
		if k%2 == 0 {
			random = randomStandstill
		}
		p, in := random(d)
		if k%20 == 0 {
			p.Bodies[0].Steps = append(p.Bodies[0].Steps, badStep)
		}
		wantPlainAnswer(t, fmt.Sprintf("run %d", k), p, in)
		if t.Failed() {
			return
		}
		seen[lastWord(impl.Answer(p, in))]++
	}
	for _, what := range []string{"over", "standstill", "standstill with a ring", "no more ticks", "no plan", "no more time"} {
		if seen[what] < 50 {
			t.Errorf("%s was met %d times only", what, seen[what])
		}
	}
	if len(seen) != 6 {
		t.Errorf("there are other last lines: %v", seen)
	}
}

// lastWord answers the last line of an answer; of a ring not its tasks.
func lastWord(answer string) string {
	lines := strings.Split(answer, "\n")
	last := lines[len(lines)-2]
	if strings.HasPrefix(last, "standstill ") {
		return "standstill with a ring"
	}
	return last
}
