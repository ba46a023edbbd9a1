package tests

import (
	"cmp"
	"slices"

	"loop.example/beat/impl"
)

// plainRun is chapter 2 of the document a second time, kept apart from the program's own form of it: one loop over flat steps,
// and no lines at all. Who stands in a line, waits for a task or is due is found from what each one asked for, and when.
func plainRun(p impl.Plan, in impl.Input) impl.Report {
	r, code := plainEnd(p, in)
	out := impl.Report{Code: code, Recs: r.recs, Time: r.time, Ticks: r.ticks}
	for _, t := range r.tasks {
		out.States = append(out.States, t.state)
	}
	return out
}

func plainEnd(p impl.Plan, in impl.Input) (*plain, int) {
	return plainWatched(p, in, func(*plain) {})
}

// plainWatched lets somebody see the run at each record.
func plainWatched(p impl.Plan, in impl.Input, see func(r *plain)) (*plain, int) {
	r := &plain{p: p, in: in, feed: in.Feed, chans: make([]plainChan, len(p.Rooms)), see: see}
	r.make(0)
	return r, r.all()
}

type plain struct {
	p     impl.Plan
	in    impl.Input
	feed  []impl.Event
	tasks []*plainTask
	world []*plainTask // an event that waits is one who sends, without a number
	chans []plainChan
	row   []*plainTask
	recs  []impl.Rec
	time  int64
	ticks int
	asks  int
	see   func(r *plain)
}

type plainTask struct {
	number int
	state  int
	regs   [4]int64
	steps  []impl.Step
	pc     int
	heads  []int
	ask    impl.Step // the step at which it waits
	asked  int
	due    int64
	num    int64 // what it sends, or for whom it waits
}

type plainChan struct {
	closed bool
	nums   []int64
}

func (r *plain) make(body int) int {
	t := &plainTask{number: len(r.tasks), steps: r.p.Bodies[body].Steps}
	r.tasks = append(r.tasks, t)
	r.ready(t)
	return t.number
}

func (r *plain) rec(kind, task int, num int64) {
	r.recs = append(r.recs, impl.Rec{Kind: kind, Time: r.time, Task: task, Num: num})
	r.see(r)
}

func (r *plain) ready(t *plainTask) {
	t.state = impl.SReady
	r.row = append(r.row, t)
}

// those answers the tasks, and what of the world waits, of which something holds, in the order of asking.
func (r *plain) those(holds func(t *plainTask) bool) []*plainTask {
	var out []*plainTask
	for _, t := range append(slices.Clone(r.tasks), r.world...) {
		if holds(t) {
			out = append(out, t)
		}
	}
	slices.SortFunc(out, func(a, b *plainTask) int { return cmp.Compare(a.asked, b.asked) })
	return out
}

func (r *plain) takers(c int) []*plainTask {
	return r.those(func(t *plainTask) bool {
		return t.state == impl.STaking && (t.ask.B == c || t.ask.Op == impl.BPick && t.ask.N == int64(c))
	})
}

func (r *plain) senders(c int) []*plainTask {
	return r.those(func(t *plainTask) bool { return t.state == impl.SSending && t.ask.B == c })
}

func (r *plain) dues() []*plainTask {
	return r.those(func(t *plainTask) bool {
		return t.state == impl.SAsleep || t.state == impl.STaking && t.ask.Op == impl.BFor
	})
}

func (r *plain) all() int {
	for {
		if len(r.row) > 0 {
			t := r.row[0]
			r.row = r.row[1:]
			if !r.turn(t) {
				return 2
			}
			continue
		}
		next := int64(-1)
		for _, t := range r.dues() {
			if next < 0 || t.due < next {
				next = t.due
			}
		}
		if len(r.feed) > 0 && (next < 0 || r.feed[0].Time < next) {
			next = r.feed[0].Time
		}
		if next < 0 {
			for _, t := range r.tasks {
				if t.state != impl.SEnded && t.state != impl.SFailed {
					return 1
				}
			}
			return 0
		}
		if next > r.in.Until {
			return 4
		}
		r.pass(next)
	}
}

func (r *plain) pass(next int64) {
	if next != r.time {
		r.time = next
		r.rec(impl.KTime, -1, 0)
	}
	for _, t := range r.dues() {
		if t.due != next {
			continue
		}
		if t.state == impl.STaking {
			t.both(t.ask.A, 0, 0)
		}
		r.ready(t)
	}
	for len(r.feed) > 0 && r.feed[0].Time == next {
		e := r.feed[0]
		r.feed = r.feed[1:]
		r.rec(impl.KFeed, -1, e.Num)
		if r.chans[e.Chan].closed || r.sent(e.Chan, e.Num) {
			continue
		}
		r.asks++
		r.world = append(r.world, &plainTask{number: -1, state: impl.SSending, ask: impl.Step{B: e.Chan}, asked: r.asks, num: e.Num})
	}
}

func (t *plainTask) both(a int, num, flag int64) {
	t.regs[a] = num
	t.regs[3] = flag
}

// turn answers false when the ticks are used up.
func (r *plain) turn(t *plainTask) bool {
	t.state = impl.SRunning
	r.rec(impl.KTurn, t.number, 0)
	for n := 0; t.state == impl.SRunning; n++ {
		if n == r.p.Slice {
			r.ready(t)
			break
		}
		t.leaveBlocks()
		if t.pc == len(t.steps) {
			r.rec(impl.KEnd, t.number, 0)
			r.over(t, impl.SEnded)
			break
		}
		if r.ticks == r.in.Ticks {
			return false
		}
		r.ticks++
		s := t.steps[t.pc]
		t.pc++
		if s.Op < impl.BSend {
			r.plainStep(t, s)
		} else {
			r.chanStep(t, s)
		}
	}
	return true
}

func (t *plainTask) leaveBlocks() {
	for len(t.heads) > 0 {
		h := t.heads[len(t.heads)-1]
		if t.pc != h+1+t.steps[h].Size {
			return
		}
		t.heads = t.heads[:len(t.heads)-1]
		if t.steps[h].Op == impl.BLoop {
			t.pc = h
		}
	}
}

func (r *plain) over(t *plainTask, state int) {
	t.state = state
	for _, w := range r.those(func(w *plainTask) bool { return w.state == impl.SWaiting && w.num == int64(t.number) }) {
		flag := int64(0)
		if state == impl.SEnded {
			flag = 1
		}
		w.both(w.ask.A, 0, flag)
		r.ready(w)
	}
}

func (r *plain) fail(t *plainTask, why int64) {
	r.rec(impl.KFail, t.number, why)
	r.over(t, impl.SFailed)
}

func (r *plain) waits(t *plainTask, s impl.Step, state int) {
	r.asks++
	t.ask, t.asked, t.state = s, r.asks, state
}

func (r *plain) plainStep(t *plainTask, s impl.Step) {
	switch s.Op {
	case impl.BSet:
		t.regs[s.A] = s.N
	case impl.BAdd:
		t.regs[s.A] = t.regs[s.B] + s.N
	case impl.BSay:
		r.rec(impl.KSay, t.number, t.regs[s.A])
	case impl.BNow:
		t.regs[s.A] = r.time
	case impl.BSleep:
		if t.regs[s.A] < 0 || t.regs[s.A] > 1000000 {
			r.fail(t, 2)
			return
		}
		t.due = r.time + t.regs[s.A]
		r.waits(t, s, impl.SAsleep)
	case impl.BYield:
		r.ready(t)
	case impl.BSpawn:
		if len(r.tasks) == 50 {
			r.fail(t, 1)
			return
		}
		t.regs[s.A] = int64(r.make(s.B))
	case impl.BWait:
		k := t.regs[s.A]
		switch {
		case k < 0 || k >= int64(len(r.tasks)):
			r.fail(t, 3)
		case r.tasks[k].state == impl.SEnded:
			t.both(s.A, 0, 1)
		case r.tasks[k].state == impl.SFailed:
			t.both(s.A, 0, 0)
		default:
			t.num = k
			r.waits(t, s, impl.SWaiting)
		}
	}
}

func (r *plain) chanStep(t *plainTask, s impl.Step) {
	switch s.Op {
	case impl.BSend:
		if r.chans[s.B].closed {
			r.fail(t, 4)
		} else if !r.sent(s.B, t.regs[s.A]) {
			t.num = t.regs[s.A]
			r.waits(t, s, impl.SSending)
		}
	case impl.BTake, impl.BFor, impl.BPick:
		r.takes(t, s)
	case impl.BClose:
		if r.chans[s.B].closed {
			r.fail(t, 5)
		} else {
			r.close(s.B)
		}
	case impl.BEnd:
		r.rec(impl.KEnd, t.number, 0)
		r.over(t, impl.SEnded)
	case impl.BLoop:
		if t.regs[s.A] > 0 {
			t.regs[s.A]--
			t.heads = append(t.heads, t.pc-1)
		} else {
			t.pc += s.Size
		}
	case impl.BIf:
		if t.regs[s.A] != 0 {
			t.heads = append(t.heads, t.pc-1)
		} else {
			t.pc += s.Size
		}
	}
}

// sent answers false when one has to wait for room.
func (r *plain) sent(c int, num int64) bool {
	if line := r.takers(c); len(line) > 0 {
		t := line[0]
		flag := int64(1)
		if t.ask.B != c {
			flag = 2
		}
		t.both(t.ask.A, num, flag)
		r.ready(t)
		return true
	}
	if len(r.chans[c].nums) >= r.p.Rooms[c] {
		return false
	}
	r.chans[c].nums = append(r.chans[c].nums, num)
	return true
}

func (r *plain) takes(t *plainTask, s impl.Step) {
	from := []int{s.B}
	if s.Op == impl.BPick {
		from = append(from, int(s.N))
	}
	open := false
	for i, c := range from {
		if num, ok := r.taken(c); ok {
			t.both(s.A, num, int64(i)+1)
			return
		}
		open = open || !r.chans[c].closed
	}
	if !open || s.Op == impl.BFor && s.N == 0 {
		t.both(s.A, 0, 0)
		return
	}
	t.due = r.time + s.N
	r.waits(t, s, impl.STaking)
}

func (r *plain) taken(c int) (int64, bool) {
	ch := &r.chans[c]
	if line := r.senders(c); len(line) > 0 {
		ch.nums = append(ch.nums, line[0].num)
		line[0].state = impl.SEnded
		if line[0].number >= 0 {
			r.ready(line[0])
		}
	}
	if len(ch.nums) == 0 {
		return 0, false
	}
	num := ch.nums[0]
	ch.nums = ch.nums[1:]
	return num, true
}

func (r *plain) close(c int) {
	senders, takers := r.senders(c), r.takers(c)
	r.chans[c].closed = true
	for _, t := range senders {
		if t.number < 0 {
			t.state = impl.SEnded
		} else {
			r.fail(t, 4)
		}
	}
	for _, t := range takers {
		other := t.ask.B
		if t.ask.Op == impl.BPick && other == c {
			other = int(t.ask.N)
		}
		if r.chans[other].closed {
			t.both(t.ask.A, 0, 0)
			r.ready(t)
		}
	}
}
