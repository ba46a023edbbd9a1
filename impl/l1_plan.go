package impl

const (
	MaxBodies = 20
	MaxSteps  = 200
	MaxDeep   = 10
	MaxChans  = 10
	MaxCap    = 10
	MaxFeed   = 100
	MaxTasks  = 50
	MaxTicks  = 5000
	MaxTime   = 1000000
	MaxSlice  = 100
	Regs      = 4
)

const (
	BSet   = 1
	BAdd   = 2
	BSay   = 3
	BNow   = 4
	BSleep = 5
	BYield = 6
	BSpawn = 7
	BWait  = 8
	BSend  = 9
	BTake  = 10
	BFor   = 11
	BPick  = 12
	BClose = 13
	BEnd   = 14
	BLoop  = 15
	BIf    = 16
)

// Step is one thing that a body does, or the head of a block of the Size steps behind it.
type Step struct {
	Op   int
	A    int
	B    int
	N    int64
	Size int
}

// Body is what a task does.
type Body struct {
	Steps []Step
}

// Plan is bodies, of which the first task has the first, the rooms of channels, and how many steps a turn has.
type Plan struct {
	Bodies []Body
	Rooms  []int
	Slice  int
}

// Event is a number that comes from outside into a channel, at a time.
type Event struct {
	Time int64
	Chan int
	Num  int64
}

// Input is what comes from outside, in order, and the bounds of a run.
type Input struct {
	Feed  []Event
	Ticks int
	Until int64
}

// Fault is what is wrong with a plan, and where.
type Fault struct {
	Code int
	Body int
	Step int
}

// The codes of a Fault, in the order in which they are told.
const (
	faultBodies = 1
	faultRooms  = 2
	faultLong   = 3
	faultStep   = 4
	faultBlock  = 5
	faultDeep   = 6
)

// PlanOk tells the first fault of a plan, or the zero value when it is valid.
func PlanOk(p Plan) Fault {
	_, fault := readPlan(p)
	return fault
}

// InputOk tells whether an input is valid for the channels of a plan.
func InputOk(p Plan, in Input) bool {
	if in.Ticks < 0 || in.Ticks > MaxTicks || !isTime(in.Until) {
		return false
	}
	return feedOk(in.Feed, p)
}

func feedOk(feed []Event, p Plan) bool {
	if len(feed) > MaxFeed {
		return false
	}
	last := int64(0)
	for _, e := range feed {
		if e.Time < last || e.Time > MaxTime || !hasChan(p, int64(e.Chan)) {
			return false
		}
		last = e.Time
	}
	return true
}

// deed is a step that was read: each Op has a type, with the fields that the Op has.
type deed interface {
	// asStep writes the deed as a step again. What it was read from is the same only if its other fields were 0.
	asStep() Step
}

type setDeed struct {
	reg int
	num int64
}

type addDeed struct {
	reg  int
	from int
	num  int64
}

type sayDeed struct{ reg int }

type nowDeed struct{ reg int }

type sleepDeed struct{ reg int }

type yieldDeed struct{}

type spawnDeed struct {
	reg  int
	body int
}

type waitDeed struct{ reg int }

type sendDeed struct {
	reg     int
	channel int
}

type takeDeed struct {
	reg     int
	channel int
}

type forDeed struct {
	reg     int
	channel int
	wait    int64
}

type pickDeed struct {
	reg     int
	channel int
	second  int64
}

type closeDeed struct{ channel int }

type endDeed struct{}

type loopDeed struct {
	reg   int
	size  int
	block []deed
}

type ifDeed struct {
	reg   int
	size  int
	block []deed
}

func (d setDeed) asStep() Step   { return Step{Op: BSet, A: d.reg, N: d.num} }
func (d addDeed) asStep() Step   { return Step{Op: BAdd, A: d.reg, B: d.from, N: d.num} }
func (d sayDeed) asStep() Step   { return Step{Op: BSay, A: d.reg} }
func (d nowDeed) asStep() Step   { return Step{Op: BNow, A: d.reg} }
func (d sleepDeed) asStep() Step { return Step{Op: BSleep, A: d.reg} }
func (d yieldDeed) asStep() Step { return Step{Op: BYield} }
func (d spawnDeed) asStep() Step { return Step{Op: BSpawn, A: d.reg, B: d.body} }
func (d waitDeed) asStep() Step  { return Step{Op: BWait, A: d.reg} }
func (d sendDeed) asStep() Step  { return Step{Op: BSend, A: d.reg, B: d.channel} }
func (d takeDeed) asStep() Step  { return Step{Op: BTake, A: d.reg, B: d.channel} }
func (d forDeed) asStep() Step   { return Step{Op: BFor, A: d.reg, B: d.channel, N: d.wait} }
func (d pickDeed) asStep() Step  { return Step{Op: BPick, A: d.reg, B: d.channel, N: d.second} }
func (d closeDeed) asStep() Step { return Step{Op: BClose, B: d.channel} }
func (d endDeed) asStep() Step   { return Step{Op: BEnd} }
func (d loopDeed) asStep() Step  { return Step{Op: BLoop, A: d.reg, Size: d.size} }
func (d ifDeed) asStep() Step    { return Step{Op: BIf, A: d.reg, Size: d.size} }

// readPlan reads the bodies of a plan, each with its blocks nested, or tells the plan's first fault.
// Each kind of fault is looked for in all bodies ahead of the next kind, as a lesser code in a later body is told first.
func readPlan(p Plan) ([][]deed, Fault) {
	if fault := boundsFault(p); fault.Code != 0 {
		return nil, fault
	}
	flat := make([][]deed, len(p.Bodies))
	for b, body := range p.Bodies {
		deeds, s := readBody(body, p)
		if s >= 0 {
			return nil, Fault{Code: faultStep, Body: b, Step: s}
		}
		flat[b] = deeds
	}
	nested := make([][]deed, len(flat))
	for b, deeds := range flat {
		block, fault := nest(deeds, 0, 0)
		if fault.Code != 0 {
			fault.Body = b
			return nil, fault
		}
		nested[b] = block
	}
	return nested, Fault{}
}

func boundsFault(p Plan) Fault {
	if len(p.Bodies) == 0 || len(p.Bodies) > MaxBodies {
		return Fault{Code: faultBodies}
	}
	if !roomsOk(p.Rooms) || p.Slice < 1 || p.Slice > MaxSlice {
		return Fault{Code: faultRooms}
	}
	for b, body := range p.Bodies {
		if len(body.Steps) > MaxSteps {
			return Fault{Code: faultLong, Body: b}
		}
	}
	return Fault{}
}

func roomsOk(rooms []int) bool {
	if len(rooms) > MaxChans {
		return false
	}
	for _, room := range rooms {
		if room < 0 || room > MaxCap {
			return false
		}
	}
	return true
}

// readBody reads the steps of a body one by one, and tells the first that is not as it must be, or -1.
func readBody(body Body, p Plan) ([]deed, int) {
	deeds := make([]deed, 0, len(body.Steps))
	for s, step := range body.Steps {
		d := readStep(step)
		if d == nil || d.asStep() != step || !fits(d, p) {
			return nil, s
		}
		deeds = append(deeds, d)
	}
	return deeds, -1
}

// readStep answers nil for an Op that there is not.
func readStep(s Step) deed {
	switch s.Op {
	case BSet:
		return setDeed{reg: s.A, num: s.N}
	case BAdd:
		return addDeed{reg: s.A, from: s.B, num: s.N}
	case BSay:
		return sayDeed{reg: s.A}
	case BNow:
		return nowDeed{reg: s.A}
	case BSleep:
		return sleepDeed{reg: s.A}
	case BYield:
		return yieldDeed{}
	case BSpawn:
		return spawnDeed{reg: s.A, body: s.B}
	case BWait:
		return waitDeed{reg: s.A}
	case BSend:
		return sendDeed{reg: s.A, channel: s.B}
	case BTake:
		return takeDeed{reg: s.A, channel: s.B}
	case BFor:
		return forDeed{reg: s.A, channel: s.B, wait: s.N}
	case BPick:
		return pickDeed{reg: s.A, channel: s.B, second: s.N}
	case BClose:
		return closeDeed{channel: s.B}
	case BEnd:
		return endDeed{}
	case BLoop:
		return loopDeed{reg: s.A, size: s.Size}
	case BIf:
		return ifDeed{reg: s.A, size: s.Size}
	}
	return nil
}

// fits tells whether the registers, bodies, channels, times and sizes that a deed names are there.
func fits(d deed, p Plan) bool {
	switch d := d.(type) {
	case setDeed:
		return isReg(d.reg)
	case addDeed:
		return isReg(d.reg) && isReg(d.from)
	case sayDeed:
		return isReg(d.reg)
	case nowDeed:
		return isReg(d.reg)
	case sleepDeed:
		return isReg(d.reg)
	case spawnDeed:
		return isReg(d.reg) && d.body >= 0 && d.body < len(p.Bodies)
	case waitDeed:
		return isReg(d.reg)
	case sendDeed:
		return isReg(d.reg) && hasChan(p, int64(d.channel))
	case takeDeed:
		return isReg(d.reg) && hasChan(p, int64(d.channel))
	case forDeed:
		return isReg(d.reg) && hasChan(p, int64(d.channel)) && isTime(d.wait)
	case pickDeed:
		return isReg(d.reg) && hasChan(p, int64(d.channel)) && hasChan(p, d.second)
	case closeDeed:
		return hasChan(p, int64(d.channel))
	case loopDeed:
		return isReg(d.reg) && d.size >= 0
	case ifDeed:
		return isReg(d.reg) && d.size >= 0
	case yieldDeed, endDeed:
		return true
	}
	return false
}

func isReg(r int) bool { return r >= 0 && r < Regs }

func isTime(t int64) bool { return t >= 0 && t <= MaxTime }

// hasChan takes an int64, as the second channel of a BPick is one.
func hasChan(p Plan, c int64) bool { return c >= 0 && c < int64(len(p.Rooms)) }

// nest moves the deeds of each block into the head of it, and tells the first block that cannot stand.
// The first of flat stands at place in its body, in deep blocks.
func nest(flat []deed, place, deep int) ([]deed, Fault) {
	var nested []deed
	for i := 0; i < len(flat); i++ {
		size, isHead := blockSize(flat[i])
		if !isHead {
			nested = append(nested, flat[i])
			continue
		}
		behind := flat[i+1:]
		// Held against what is left: a sum with a very great size would wrap.
		if size > len(behind) {
			return nil, Fault{Code: faultBlock, Step: place + i}
		}
		if deep >= MaxDeep {
			return nil, Fault{Code: faultDeep, Step: place + i}
		}
		block, fault := nest(behind[:size], place+i+1, deep+1)
		if fault.Code != 0 {
			return nil, fault
		}
		nested = append(nested, withBlock(flat[i], block))
		i += size
	}
	return nested, Fault{}
}

// blockSize tells how many deeds behind a head are its block, and whether the deed is a head.
func blockSize(d deed) (int, bool) {
	switch d := d.(type) {
	case loopDeed:
		return d.size, true
	case ifDeed:
		return d.size, true
	}
	return 0, false
}

func withBlock(head deed, block []deed) deed {
	switch d := head.(type) {
	case loopDeed:
		d.block = block
		return d
	case ifDeed:
		d.block = block
		return d
	}
	return head
}
