package tests

import (
	"cmp"
	"fmt"
	"reflect"
	"slices"
	"strings"
	"testing"

	"loop.example/beat/impl"
)

var stateWords = []string{"ready", "runs", "asleep", "waits", "sends", "takes", "ended", "failed"}

// toldStand writes how all stands as a short text: the time, the row, the state of each task and in brackets its registers
// (without those at the end that are 0), and of each channel whether it is open or shut, and in brackets its numbers, s4 for task 4
// in the line of those who send (s-1 the world outside), t5 for task 5 in that of those who take.
func toldStand(s impl.Stand) string {
	if !s.Ok {
		return fmt.Sprintf("none%v", toldZero(s))
	}
	var tasks, chans []string
	for k, state := range s.States {
		word := fmt.Sprintf("!state %d", state)
		if state >= 0 && state < len(stateWords) {
			word = stateWords[state]
		}
		tasks = append(tasks, word+"("+toldRegs(s, k)+")")
	}
	for _, h := range s.Chans {
		word := "open"
		if h.Closed {
			word = "shut"
		}
		chans = append(chans, word+"("+toldHeld(h)+")")
	}
	return fmt.Sprintf("@%d row%v tasks%v chans%v", s.Time, s.Ready, tasks, chans)
}

func toldZero(s impl.Stand) string {
	if s.Time == 0 && len(s.Ready)+len(s.States)+len(s.Regs)+len(s.Chans) == 0 {
		return ""
	}
	return fmt.Sprintf("!%v", s)
}

func toldRegs(s impl.Stand, k int) string {
	if len(s.Regs) != len(s.States) || len(s.Regs[k]) != 4 {
		return fmt.Sprintf("!regs %v", s.Regs)
	}
	regs := s.Regs[k]
	for len(regs) > 0 && regs[len(regs)-1] == 0 {
		regs = regs[:len(regs)-1]
	}
	return strings.ReplaceAll(strings.Trim(fmt.Sprint(regs), "[]"), " ", ",")
}

func toldHeld(h impl.Held) string {
	var out []string
	for _, n := range h.Nums {
		out = append(out, fmt.Sprint(n))
	}
	for _, k := range h.Senders {
		out = append(out, fmt.Sprintf("s%d", k))
	}
	for _, k := range h.Takers {
		out = append(out, fmt.Sprintf("t%d", k))
	}
	return strings.Join(out, " ")
}

// standCase is a run, and for each of its records what is recorded and how all stands then, worked out by hand from the document.
type standCase struct {
	name string
	p    impl.Plan
	in   impl.Input
	want []string
}

func wantStands(t *testing.T, cases []standCase) {
	t.Helper()
	for _, c := range cases {
		if f := impl.PlanOk(c.p); f.Code != 0 || !impl.InputOk(c.p, c.in) {
			t.Errorf("%s: the case itself is not valid: %v", c.name, f)
		}
		recs := impl.RunPlan(c.p, c.in).Recs
		if len(recs) != len(c.want) {
			t.Errorf("%s: there are %d records, not %d", c.name, len(recs), len(c.want))
		}
		for k := range min(len(recs), len(c.want)) {
			if got := toldRec(recs[k]) + " " + toldStand(impl.StandAt(c.p, c.in, k)); got != c.want[k] {
				t.Errorf("%s: record %d\n got %s\nwant %s", c.name, k, got, c.want[k])
			}
		}
		for _, k := range []int{-1, len(recs), len(recs) + 1} {
			if got := toldStand(impl.StandAt(c.p, c.in, k)); got != "none" {
				t.Errorf("%s: there is no record %d: %s", c.name, k, got)
			}
		}
		wantPlainStands(t, c.name, c.p, c.in)
	}
}

// wantPlainStands holds how all stands, at each record and at none, against the plain form of the document. It answers these.
func wantPlainStands(t *testing.T, name string, p impl.Plan, in impl.Input) ([]impl.Rec, []impl.Stand) {
	t.Helper()
	recs, want := plainStands(p, in)
	for k := -1; k <= len(want); k++ {
		plain := impl.Stand{}
		if k >= 0 && k < len(want) {
			plain = want[k]
		}
		if got := impl.StandAt(p, in, k); !sameStand(got, plain) {
			t.Errorf("%s: %v with %v: record %d of %d\n  got %s\nplain %s", name, p, in, k, len(want), toldStand(got), toldStand(plain))
		}
	}
	return recs, want
}

// sameStand takes an empty list and nil for the same value, as the document does.
func sameStand(a, b impl.Stand) bool {
	return a.Ok == b.Ok && a.Time == b.Time && slices.Equal(a.Ready, b.Ready) && slices.Equal(a.States, b.States) &&
		slices.EqualFunc(a.Regs, b.Regs, slices.Equal) && slices.EqualFunc(a.Chans, b.Chans, sameHeld)
}

func sameHeld(a, b impl.Held) bool {
	return a.Closed == b.Closed && slices.Equal(a.Nums, b.Nums) && slices.Equal(a.Senders, b.Senders) && slices.Equal(a.Takers, b.Takers)
}

// plainStands tells how all stands at each record, from the plain form of chapter 2.
func plainStands(p impl.Plan, in impl.Input) ([]impl.Rec, []impl.Stand) {
	var stands []impl.Stand
	r, _ := plainWatched(p, in, func(r *plain) { stands = append(stands, r.stand()) })
	return r.recs, stands
}

func (r *plain) stand() impl.Stand {
	s := impl.Stand{Ok: true, Time: r.time, Ready: numbersOf(r.row), Chans: make([]impl.Held, len(r.chans))}
	for _, t := range r.tasks {
		s.States = append(s.States, t.state)
		s.Regs = append(s.Regs, slices.Clone(t.regs[:]))
	}
	for c := range s.Chans {
		s.Chans[c] = impl.Held{Closed: r.chans[c].closed, Nums: slices.Clone(r.chans[c].nums)}
		// Nobody stands in a line of a closed channel, though a pick may have asked for it, and who will fail still sends.
		if !s.Chans[c].Closed {
			s.Chans[c].Senders, s.Chans[c].Takers = numbersOf(r.senders(c)), numbersOf(r.takers(c))
		}
	}
	return s
}

func numbersOf(line []*plainTask) []int {
	var out []int
	for _, t := range line {
		out = append(out, t.number)
	}
	return out
}

// memory is where a list lies, with the places behind its end.
type memory struct{ from, to uintptr }

// memoriesOf finds all lists in a value. Whoever holds them against each other keeps the value alive.
func memoriesOf(v reflect.Value) []memory {
	var out []memory
	switch v.Kind() {
	case reflect.Slice:
		if v.Cap() > 0 {
			from := v.Pointer()
			out = append(out, memory{from, from + uintptr(v.Cap())*v.Type().Elem().Size()})
		}
		for k := range v.Len() {
			out = append(out, memoriesOf(v.Index(k))...)
		}
	case reflect.Struct:
		for k := range v.NumField() {
			out = append(out, memoriesOf(v.Field(k))...)
		}
	}
	return out
}

// wantApart wants that no two lists in all the values share memory.
func wantApart(t *testing.T, name string, values ...any) {
	t.Helper()
	var all []memory
	for _, v := range values {
		all = append(all, memoriesOf(reflect.ValueOf(v))...)
	}
	slices.SortFunc(all, func(a, b memory) int { return cmp.Compare(a.from, b.from) })
	for k := 1; k < len(all); k++ {
		if all[k].from < all[k-1].to {
			t.Errorf("%s: two lists share memory: %v", name, values)
			return
		}
	}
}
