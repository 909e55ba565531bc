package clock_test

import (
	"cmp"
	"math/rand"
	"slices"
	"strconv"
	"testing"

	"treadle/aid"
	"treadle/api"
	"treadle/clock"
	"treadle/gate"
)

// The chapter's steps once more, along records: what a run tells and answers is held against them.

const (
	nowCell = iota
	busyCell
	slotCells
)

func stateCell(slot int) int { return slotCells + 2*slot }
func dueCell(slot int) int   { return slotCells + 2*slot + 1 }

// How a timer's slot changes.
const (
	isSet = iota
	isStopped
	rings
	hasRung
)

// event: a change of a timer's slot along a record, with the place of its access there.
type event struct {
	at    int
	what  int
	timer clock.Timer
	due   int64 // of one that is set
}

// did: a call along a record: where it is there.
type did struct {
	aid.Span
	call    call
	answer  answer
	within  bool  // made by a bell
	ends    bool  // it has answered, or a bell's panic came out of it
	laid    bool  // an Advance that laid a time
	was, is int64 // the time that it found, and laid
	rang    int   // how many timers, in it
	vain    int   // how often it did not claim, or ring, what it had seen
}

// world: threads that call a clock, and what comes of them.
type world struct {
	x       *played
	held    map[int]int64         // what the cells hold ahead of the run
	bells   map[clock.Timer]*bell // of all timers that were ever set
	dues    map[clock.Timer]int64
	threads aid.Scripts[call, answer]
	did     []*did // those that began, along the record
	events  []event
}

// newWorld: of a clock that one thread made the first calls of.
func newWorld(first []call, calls [][]call) *world {
	w := &world{x: newClock(), held: map[int]int64{}, bells: map[clock.Timer]*bell{}, dues: map[clock.Timer]int64{}}
	ahead := w.behind(w.held, [][]call{first})
	held, _ := ahead.ends(gate.Run(nil, api.MaxTurns, ahead.threads.Bodies()...))
	return w.behind(held, calls)
}

// behind: threads that call the same clock, when its cells hold these.
func (w *world) behind(held map[int]int64, calls [][]call) *world {
	b := &world{x: w.x, held: held, bells: w.bells, dues: w.dues}
	b.threads = aid.Scripts[call, answer]{Calls: calls, Do: func(t *gate.Thread, c call) answer { return do(b.x, t, c) }, Steps: func(s *aid.Steps, c call) answer { return b.steps(s, c, false) }}
	return b
}

func (w *world) steps(s *aid.Steps, c call, within bool) answer {
	d := &did{call: c, within: within}
	w.did = append(w.did, d)
	s.Span(&d.Span, func() {
		switch c.op {
		case now:
			d.answer = at(s.Load(nowCell))
		case set:
			d.answer = w.sets(s, d)
		case stop:
			d.answer = w.stops(s, d)
		case advance:
			d.answer = w.advances(s, d)
		}
	})
	d.ends = true
	return d.answer
}

// here: the place of one step.
func here(s *aid.Steps, step func()) int {
	var at aid.Span
	s.Span(&at, step)
	return at.First
}

// cas: whether it is done, and where.
func cas(s *aid.Steps, cell int, old, next int64) (ok bool, at int) {
	at = here(s, func() { ok = s.Cas(cell, old, next) })
	return ok, at
}

func (w *world) notes(at, what int, x clock.Timer) {
	w.events = append(w.events, event{at, what, x, w.dues[x]})
}

func (w *world) sets(s *aid.Steps, d *did) answer {
	if d.call.n < 0 || d.call.n > 1<<62 || d.call.rings == nil {
		return wrong
	}
	for i := range 16 {
		x := s.Load(stateCell(i))
		if x%4 != 0 {
			continue
		}
		if !s.Cas(stateCell(i), x, x+1) {
			d.vain++
			continue
		}
		is := timer(i, x+2)
		w.bells[is], w.dues[is] = d.call.rings, d.call.n
		s.Store(dueCell(i), d.call.n)
		w.notes(here(s, func() { s.Store(stateCell(i), x+2) }), isSet, is)
		return answer{timer: is}
	}
	return full
}

func (w *world) stops(s *aid.Steps, d *did) answer {
	x := d.call.timer
	if x.Slot < 0 || x.Slot >= 16 || x.Ring < 0 || x.Ring%4 != 2 {
		return no
	}
	ok, at := cas(s, stateCell(x.Slot), x.Ring, x.Ring+2)
	if ok {
		w.notes(at, isStopped, x)
	}
	return answer{ok: ok}
}

func (w *world) advances(s *aid.Steps, d *did) answer {
	if d.call.n < 0 {
		return wrong
	}
	if !s.Cas(busyCell, 0, 1) {
		return busy
	}
	d.was = s.Load(nowCell)
	d.is = later(d.was, d.call.n)
	s.Store(nowCell, d.is)
	d.laid = true
	heard := ""
	for {
		x, due := w.look(s, d.is)
		if !due || d.rang == 64 {
			break
		}
		ok, at := cas(s, stateCell(x.Slot), x.Ring, x.Ring+1)
		if !ok {
			d.vain++
			continue
		}
		w.notes(at, rings, x)
		answers := ""
		b := w.bells[x]
		if b == nil {
			b = quiet("it is not known yet")
		}
		for _, c := range b.calls {
			answers += w.steps(s, c, true).text(c)
		}
		if heard += b.heard(answers); b.falls {
			return falls(b.name, heard)
		}
		w.notes(here(s, func() { s.Store(stateCell(x.Slot), x.Ring+2) }), hasRung, x)
		d.rang++
	}
	s.Store(busyCell, 0)
	return rung(int64(d.rang), heard)
}

// look: the timer that is to ring, if there is any.
func (w *world) look(s *aid.Steps, is int64) (x clock.Timer, found bool) {
	var least int64
	for i := range 16 {
		state := s.Load(stateCell(i))
		if state%4 != 2 {
			continue
		}
		due := s.Load(dueCell(i))
		if due <= is && (!found || due < least) {
			x, least, found = timer(i, state), due, true
		}
	}
	return x, found
}

// ends: what the cells hold at the end, and what was found in the report. A bell may be that of a thread that is gone through behind the one which rings it: so it goes through it till no bell is new.
func (w *world) ends(r api.Report) (map[int]int64, []string) {
	for {
		known := len(w.bells)
		w.did, w.events = nil, nil
		ends, faults := w.threads.Ends(r, w.held)
		if len(w.bells) == known {
			return ends, faults
		}
	}
}

// run plays the threads, and holds what comes of it against the steps, and what follows.
func (w *world) run(t *testing.T, picks []int, most int) api.Report {
	t.Helper()
	r := gate.Run(picks, most, w.threads.Bodies()...)
	ends, faults := w.ends(r)
	if r.End == api.Dead || r.End == api.Cut && r.Turns < most || len(r.Fell) != 0 {
		t.Errorf("R1: %+v", r)
	}
	faults = append(faults, w.follows(ends)...)
	calls := tells()
	behind := w.behind(ends, [][]call{calls})
	if _, l := behind.ends(gate.Run(nil, api.MaxTurns, behind.threads.Bodies()...)); len(l) > 0 {
		faults = append(append(faults, "the clock is not what the record says"), l...)
	}
	if !asPlain(w.plain(ends), calls, behind.threads.Got[0]) {
		t.Errorf("P10.1 to P10.4: behind it: %v", behind.threads.Got[0])
	}
	for _, f := range faults {
		t.Errorf("W1, what follows: %s", f)
	}
	return r
}

// plain: what the clock is where its cells hold these.
func (w *world) plain(held map[int]int64) plain {
	s := plain{now: held[nowCell], busy: held[busyCell] != 0}
	for i := range s.slots {
		s.slots[i].state = held[stateCell(i)]
		if x := w.standing(held, i); x.Ring != 0 {
			s.slots[i].due, s.slots[i].rings = held[dueCell(i)], w.bells[x]
		}
	}
	return s
}

// standing: the timer that is set in a slot; of none no timer.
func (w *world) standing(held map[int]int64, i int) clock.Timer {
	if x := held[stateCell(i)]; x%4 == 2 {
		return timer(i, x)
	}
	return clock.Timer{}
}

// life: of a timer: the places of its accesses; of those that were ahead of the run -1; of those that were not never.
type life struct {
	due                         int64
	isSet, isStopped, rings, is int
}

const never = 1 << 40

// lives: of all timers that stood ahead of the run, or were set in it.
func (w *world) lives() (l map[clock.Timer]*life, faults []string) {
	l = map[clock.Timer]*life{}
	for i := range 16 {
		if x := w.standing(w.held, i); x.Ring != 0 {
			l[x] = &life{w.held[dueCell(i)], -1, never, never, never}
		}
	}
	slices.SortFunc(w.events, func(a, b event) int { return a.at - b.at })
	for _, e := range w.events {
		x, known := l[e.timer]
		if !known {
			x = &life{e.due, never, never, never, never}
			l[e.timer] = x
		}
		stood := x.isSet < never && x.isStopped == never && x.rings == never
		fits := true
		switch e.what {
		case isSet:
			x.isSet, fits = e.at, !known
		case isStopped:
			x.isStopped, fits = e.at, stood
		case rings:
			x.rings, fits = e.at, stood
		case hasRung:
			x.is, fits = e.at, x.rings < never && x.is == never
		}
		if !fits {
			faults = append(faults, "a timer is set twice, or rings or is stopped when it does not stand: at "+strconv.Itoa(e.at))
		}
	}
	return l, faults
}

// follows: what does not, of that what the chapter says follows.
func (w *world) follows(ends map[int]int64) []string {
	lives, faults := w.lives()
	fault := func(is bool, what string, d *did) {
		if is {
			faults = append(faults, what+": the call at "+strconv.Itoa(d.First))
		}
	}
	time, from := w.held[nowCell], 0
	for _, d := range w.advanced() {
		fault(d.First < from, "two Advances at one time", d)
		fault(d.was != time || d.is < time, "now falls", d)
		fault(uint64(d.is) != min(uint64(time)+uint64(d.call.n), 1<<62), "it is another time", d)
		fault(!inOrder(lives, d), "timers ring ahead of their time, or not in their order", d)
		fault(d.ends && d.answer.fell == "" && d.rang < 64 && leaves(lives, d), "what is due does not ring", d)
		time, from = d.is, d.Last
	}
	if time != ends[nowCell] {
		faults = append(faults, "now is not what it was advanced to")
	}
	for _, d := range w.did {
		fault(d.ends && d.call.op == stop && d.First == d.Last && d.answer.ok != stands(lives[d.call.timer], d.First), "a Stop is told otherwise than it is", d)
	}
	return faults
}

// advanced: the Advances that laid a time, in their order.
func (w *world) advanced() []*did {
	l := slices.DeleteFunc(slices.Clone(w.did), func(d *did) bool { return !d.laid })
	slices.SortFunc(l, func(a, b *did) int { return a.First - b.First })
	return l
}

// stands: whether a timer stood ahead of this place.
func stands(x *life, at int) bool {
	return x != nil && x.isSet < at && x.isStopped >= at && x.rings >= at
}

// inOrder: whether what rang in an Advance was due, and rang in the order of the dues, but for what was set meanwhile.
func inOrder(lives map[clock.Timer]*life, d *did) bool {
	var l []*life
	for _, x := range lives {
		if x.rings < d.First || x.rings > d.Last {
			continue
		}
		if x.due > d.is {
			return false
		}
		if x.isSet < d.First {
			l = append(l, x)
		}
	}
	slices.SortFunc(l, func(a, b *life) int { return a.rings - b.rings })
	return slices.IsSortedFunc(l, func(a, b *life) int { return cmp.Compare(a.due, b.due) })
}

// leaves: whether a timer stood through a whole Advance, and was due.
func leaves(lives map[clock.Timer]*life, d *did) bool {
	for _, x := range lives {
		if x.due <= d.is && stands(x, d.First) && stands(x, d.Last+1) {
			return true
		}
	}
	return false
}

// counts what was met in a run.
func (w *world) counts(met map[string]int) {
	lives, _ := w.lives()
	for _, d := range w.did {
		what := []string{"Now", "Set", "Stop", "Advance"}[d.call.op]
		if d.vain > 0 {
			met[what+": forestalled"]++
		}
		switch {
		case d.within && !d.ends:
			what = "within"
		case d.within:
			what = "within: " + what
		}
		met[what+": "+d.how(lives)]++
	}
}

// how: a call went.
func (d *did) how(lives map[clock.Timer]*life) string {
	x := lives[d.call.timer]
	switch {
	case !d.ends && d.call.op == advance && d.laid && d.rang == 0:
		return "does not end, nothing has rung"
	case !d.ends:
		return "does not end"
	case d.answer.e != api.OK:
		return d.answer.e.Error()
	case d.answer.fell != "":
		return "falls"
	case d.rang == 64:
		return "as much as may be"
	case d.rang > 1:
		return "several ring"
	case d.rang == 1:
		return "one rings"
	case d.call.op != stop || d.answer.ok:
		return "done"
	case d.First > d.Last:
		return "no timer"
	case x == nil || x.isSet > d.First:
		return "none stands"
	case x.isStopped < d.First:
		return "is stopped"
	case x.is < d.First:
		return "has rung"
	}
	return "rings"
}

// TestRuns: random threads under random picks, and again.
func TestRuns(t *testing.T) {
	const enough = 1 << 14
	ended, met := map[int8]int{}, map[string]int{}
	for seed := range int64(5000) {
		r := rand.New(rand.NewSource(seed))
		first, calls := someCalls(r)
		most := aid.Some(r.Intn, []int{0, 20, 30, 45, 70, 100, enough, enough, enough, enough, enough, enough})
		w := newWorld(first, calls)
		picks := aid.Mixed(seed, r.Intn, 200, []int{1, 2, 4, 8, 16, 30})
		report := w.run(t, picks, most)
		if most == enough && report.End != api.Over {
			t.Errorf("R1: %d turns are not enough", most)
		}
		second, e, _ := gate.Again(report.Went, newWorld(first, calls).threads.Bodies()...)
		if e != api.OK || !aid.Same(second, report) {
			t.Errorf("W7: %d: %+v, not %+v", e, second, report)
		}
		if t.Failed() {
			t.Fatalf("seed %d: behind %+v: %+v: %s", seed, first, calls, aid.Texts(report.Log))
		}
		ended[report.End]++
		w.counts(met)
	}
	if ended[api.Over] < 3000 || ended[api.Cut] < 1000 {
		t.Errorf("the threads are no good: %v", ended)
	}
	for least, l := range enoughOfEach() {
		for _, what := range l {
			if met[what] < least {
				t.Errorf("the threads are no good: %s in %v", what, met)
			}
		}
	}
}

// enoughOfEach: how often such calls are to be met.
func enoughOfEach() map[int][]string {
	return map[int][]string{
		500: {"Now: done", "Set: done", "Set: does not end", "Stop: done", "Stop: is stopped", "Stop: none stands", "Stop: no timer", "Advance: done", "Advance: error 14", "Advance: one rings", "Advance: several ring", "Advance: does not end", "within: Now: done", "within: Set: done"},
		200: {"Set: error 1", "Set: error 12", "Set: forestalled", "Stop: does not end", "Advance: error 1", "Advance: falls", "Advance: does not end, nothing has rung", "within: Stop: done", "within: Stop: has rung", "within: Stop: is stopped", "within: Stop: none stands", "within: Advance: error 14"},
		100: {"Stop: has rung", "Advance: as much as may be", "within: Stop: rings"},
		40:  {"Advance: forestalled", "within: Set: error 1", "within: does not end"},
		10:  {"Stop: rings", "within: Set: error 12", "within: Advance: error 1"},
	}
}

// maker: of random calls.
type maker struct {
	*rand.Rand
	ops   []int
	bells int
}

// someCalls: those that one thread makes of a clock ahead of a run; and those of some threads.
func someCalls(r *rand.Rand) (first []call, calls [][]call) {
	m := &maker{Rand: r, ops: []int{set}}
	first = m.calls(6, 0)
	if r.Intn(8) == 0 {
		first = append(first, fills(9+r.Intn(4), 1<<62)...)
	}
	for range 1 + r.Intn(4) {
		m.ops = aid.Some(r.Intn, [][]int{{set}, {stop}, {advance}, {set, stop}, {now, stop, advance, advance}, {now, set, stop, stop, advance}})
		calls = append(calls, m.calls(6, 0))
	}
	return first, calls
}

func (m *maker) calls(most, depth int) (l []call) {
	for range m.Intn(most + 1) {
		l = append(l, m.call(depth))
	}
	return l
}

func (m *maker) call(depth int) call {
	switch aid.Some(m.Intn, m.ops) {
	case set:
		return sets(m.time(7), m.bell(depth))
	case stop:
		slots, rings := []int{0, 0, 0, 0, 1, 1, 1, 1, 2, 2, 2, 3, 3, 4, 15, 16, -1}, []int64{2, 2, 2, 2, 2, 2, 2, 2, 2, 2, 6, 6, 10, 0, 3, -2}
		return stops(aid.Some(m.Intn, slots), aid.Some(m.Intn, rings))
	case advance:
		return advances(m.time(4))
	}
	return looks
}

// time: most often one that is not greater than most.
func (m *maker) time(most int) int64 {
	if m.Intn(10) == 0 {
		return aid.Some(m.Intn, times())
	}
	return int64(m.Intn(most + 1))
}

func (m *maker) bell(depth int) *bell {
	m.bells++
	b := quiet("b" + strconv.Itoa(m.bells))
	switch kind := m.Intn(40); {
	case kind == 0:
		return endless(b.name, aid.Some(m.Intn, []int64{0, 0, 1, 5, 1 << 62}))
	case kind == 1:
		return nil
	case kind < 30 && depth < 3:
		own := m.ops
		m.ops = []int{now, now, set, stop, stop, advance}
		b.calls = m.calls(4, depth+1)
		m.ops = own
	}
	b.falls = m.Intn(15) == 0
	return b
}

// TestEverySchedule: small threads under all schedules.
func TestEverySchedule(t *testing.T) {
	a, b := quiet("A"), quiet("B")
	for _, row := range []struct {
		first   []call
		calls   [][]call
		runs    int // so many schedules there are
		stopped int // in so many a Stop is told that it does
		vainly  int // in so many somebody is forestalled
		busy    int // in so many an Advance is told that another one goes on
		rings   int // in so many something rings
	}{
		{nil, [][]call{{sets(1, a)}, {sets(2, b)}}, 126, 0, 84, 0, 0},
		{[]call{sets(1, a), sets(2, b), stops(0, 2)}, [][]call{{sets(1, a)}, {sets(2, b)}}, 168, 0, 112, 0, 0},
		{nil, [][]call{{sets(1, a)}, {sets(2, b)}, {stops(0, 2)}}, 1344, 336, 924, 0, 0},
		{[]call{sets(1, a)}, [][]call{{advances(1)}, {stops(0, 2)}}, 40, 21, 17, 0, 19},
		{[]call{sets(1, a)}, [][]call{{stops(0, 2)}, {stops(0, 2)}, {stops(0, 2)}}, 6, 6, 0, 0, 0},
		{[]call{sets(1, a)}, [][]call{{advances(1)}, {stops(0, 2)}, {stops(0, 2)}}, 1454, 1074, 918, 0, 380},
		{[]call{sets(1, a), sets(1, b)}, [][]call{{advances(1)}, {stops(0, 2)}, {stops(1, 2)}}, 3065, 2324, 1746, 0, 2245},
		{[]call{sets(2, a), sets(1, b)}, [][]call{{advances(1)}, {stops(1, 2), advances(1)}}, 787, 577, 440, 744, 233},
		{nil, [][]call{{advances(1)}, {advances(2)}}, 40, 0, 0, 38, 0},
		{nil, [][]call{{advances(1)}, {advances(2)}, {looks}}, 918, 0, 0, 836, 0},
	} {
		stopped, vainly, isBusy, rang := 0, 0, 0, 0
		runs := aid.Every(99, func(picks []int) []int {
			w := newWorld(row.first, row.calls)
			r := w.run(t, picks, len(picks))
			if t.Failed() || r.End != api.Over {
				t.Fatalf("behind %v: %v: %v: %s", row.first, row.calls, picks, aid.Texts(r.Log))
			}
			counts := func(n *int, is func(d *did) bool) {
				if slices.ContainsFunc(w.did, is) {
					*n++
				}
			}
			counts(&stopped, func(d *did) bool { return d.answer.ok })
			counts(&vainly, func(d *did) bool { return d.vain > 0 })
			counts(&isBusy, func(d *did) bool { return !d.within && d.answer == busy })
			counts(&rang, func(d *did) bool { return d.rang > 0 })
			return r.Ready
		})
		if runs != row.runs || stopped != row.stopped || vainly != row.vainly || isBusy != row.busy || rang != row.rings {
			t.Errorf("behind %v, %v: %d schedules, in %d one is stopped, in %d one is forestalled, in %d one is told of another, in %d something rings", row.first, row.calls, runs, stopped, vainly, isBusy, rang)
		}
	}
}
