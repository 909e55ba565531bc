package clock_test

import (
	"cmp"
	"math/rand"
	"runtime"
	"slices"
	"sync/atomic"
	"testing"
	"time"

	"treadle/aid"
	"treadle/api"
	"treadle/clock"
	"treadle/gate"
)

// (What plain memory is handed on the race detector sees besides.)

const hands, meetings = 8, 20000

// one: a timer that a hand sets. What is plain of it is its hand's, or that of whoever rings it.
type one struct {
	due       int64
	laid      int // 1, laid ahead of its Set
	timer     clock.Timer
	is        bool         // set
	setIn     int64        // behind its Set so many Advances had begun
	rings     int          // how often it rang
	rangIn    int64        // so many Advances had begun then
	stops     atomic.Int64 // how many Stops were told that they stopped it
	stoppedIn atomic.Int64 // ahead of that so many Advances had begun
}

// crowd: hands that set timers, that stop them, that let time pass, and that look.
type crowd struct {
	c       *clock.Clock
	all     []*one       // by their numbers
	latest  atomic.Int64 // the number, and one more, of one that was set
	begun   atomic.Int64 // how many Advances began
	passed  atomic.Int64 // how far those that were done went
	rung    atomic.Int64 // how many rang, as they were told
	rang    []int        // the numbers of those that rang, in their order: of Advances one goes on at a time
	reached []int64      // by each Advance, where one alone advances
	amiss   atomic.Int64
	late    atomic.Bool // where something goes wrong they might go on for ever
}

// party: how many hands of each kind there are; how many timers a hand sets, of dues that lie so far ahead at most.
type party struct{ setters, each, far, stoppers, advancers, lookers int }

// passes: such hands.
func passes(p party) *crowd {
	x := &crowd{c: clock.New()}
	for range p.setters * p.each {
		x.all = append(x.all, &one{})
	}
	defer time.AfterFunc(30*time.Second, func() { x.late.Store(true) }).Stop()
	var setting atomic.Int64
	setting.Store(int64(p.setters))
	over := func() bool { return setting.Load() == 0 || x.late.Load() }
	aid.Beside(p.setters+p.stoppers+p.advancers+p.lookers, func(h int) {
		r := rand.New(rand.NewSource(int64(h)))
		switch {
		case h < p.setters:
			for i := 0; i < p.each && !x.late.Load(); i++ {
				x.sets(h*p.each+i, r.Intn(p.far+1))
				if r.Intn(3) == 0 {
					x.stops(h*p.each + r.Intn(i+1))
				}
			}
			setting.Add(-1)
		case h < p.setters+p.stoppers:
			for !over() {
				x.stops(int(x.latest.Load() - 1))
				runtime.Gosched()
			}
		case h < p.setters+p.stoppers+p.advancers:
			for !over() {
				x.advances(int64(r.Intn(3)), p.advancers == 1)
				runtime.Gosched()
			}
		default:
			for was := int64(0); !over(); {
				was = x.looks(was)
				runtime.Gosched()
			}
		}
	})
	return x
}

// sets sets the timer of this number, so far ahead, if there is a slot.
func (x *crowd) sets(n, far int) {
	o := x.all[n]
	o.due, o.laid = x.c.Now(nil)+int64(far), 1
	var e api.Errno
	o.timer, e = x.c.Set(nil, o.due, func(*gate.Thread) {
		if o.rings++; o.laid != 1 || x.c.Now(nil) < o.due {
			x.amiss.Add(1)
		}
		o.rangIn = x.begun.Load()
		x.rang = append(x.rang, n)
	})
	switch {
	case e == api.OK:
		o.is, o.setIn = true, x.begun.Load()
		x.latest.Store(int64(n + 1))
	case e == api.ErrFull && o.timer == clock.Timer{}:
		runtime.Gosched()
	default:
		x.amiss.Add(1)
	}
}

// stops stops the timer of this number, if it is one that was set.
func (x *crowd) stops(n int) {
	if n < 0 || !x.all[n].is {
		return
	}
	begun := x.begun.Load()
	if o := x.all[n]; x.c.Stop(nil, o.timer) {
		o.stoppedIn.Store(begun)
		o.stops.Add(1)
	}
}

func (x *crowd) advances(d int64, alone bool) {
	was := x.c.Now(nil)
	x.begun.Add(1)
	n, e := x.c.Advance(nil, d)
	is := x.c.Now(nil)
	switch {
	case e == api.OK:
		x.rung.Add(int64(n))
		x.passed.Add(d)
		if is < was+d || alone && is != was+d {
			x.amiss.Add(1)
		}
		if alone {
			x.reached = append(x.reached, is)
		}
	case e != api.ErrBusy || n != 0 || alone:
		x.amiss.Add(1)
	}
}

// looks: which time it is: none ahead of that what it was.
func (x *crowd) looks(was int64) int64 {
	is := x.c.Now(nil)
	if is < was {
		x.amiss.Add(1)
	}
	return is
}

// holds: whether nothing went wrong: each timer that was set rang once, or was stopped, never both.
func (x *crowd) holds(t *testing.T, what string) {
	t.Helper()
	if now := x.c.Now(nil); now != x.passed.Load() {
		t.Errorf("what follows: %s: it is %d, and %d passed", what, now, x.passed.Load())
	}
	for n := 1; n > 0; {
		x.begun.Add(1)
		n, _ = x.c.Advance(nil, 1<<40)
		x.rung.Add(int64(n))
	}
	timers := map[clock.Timer]int{}
	for i, o := range x.all {
		ends := int64(o.rings) + o.stops.Load()
		if o.is != (ends == 1) || ends > 1 {
			t.Errorf("what follows: %s: the timer %d, %v, is set: %v; it rang %d times, and was stopped %d times", what, i, o.timer, o.is, o.rings, o.stops.Load())
		}
		if _, twice := timers[o.timer]; o.is && (twice || o.timer.Slot < 0 || o.timer.Slot > 15 || o.timer.Ring%4 != 2 || o.timer.Ring < 0) {
			t.Errorf("P10.2: %s: the timer %d is %v", what, i, o.timer)
		}
		timers[o.timer] = i
	}
	if n := x.rung.Load(); n != int64(len(x.rang)) {
		t.Errorf("P10.4: %s: %d rang, as is told, %d, as is seen", what, n, len(x.rang))
	}
	calls, free := fills(17, 1<<62), newClock()
	free.Clock = x.c
	for i, a := range makes(free, nil, calls...) {
		if i < 16 && (a.timer.Slot != i || a.e != api.OK) || i == 16 && a != full {
			t.Errorf("P10.2: %s: behind it the Set number %d: %v", what, i, a)
		}
	}
	if n := x.amiss.Load(); n != 0 || t.Failed() {
		t.Fatalf("what follows: %s: %d times amiss", what, n)
	}
}

// inOrder: whether in each Advance of one who alone advances what rang, and was set ahead of it, rang in the order of the dues; and nothing that was due, and stood through it, was left.
func (x *crowd) inOrder(t *testing.T, what string) {
	t.Helper()
	in := map[int64][]*one{}
	for _, n := range x.rang {
		o := x.all[n]
		in[o.rangIn] = append(in[o.rangIn], o)
	}
	for e, is := range x.reached {
		began := int64(e + 1)
		l := slices.DeleteFunc(slices.Clone(in[began]), func(o *one) bool { return o.setIn >= began })
		if !slices.IsSortedFunc(l, func(a, b *one) int { return cmp.Compare(a.due, b.due) }) {
			t.Fatalf("what follows: %s: in the Advance number %d timers do not ring in their order", what, e)
		}
		if len(in[began]) == 64 {
			continue
		}
		for i, o := range x.all {
			later := o.rings > 0 && o.rangIn > began || o.stops.Load() > 0 && o.stoppedIn.Load() > began
			if o.is && o.setIn < began && o.due <= is && later {
				t.Fatalf("what follows: %s: the timer %d, due at %d, stands through the Advance to %d", what, i, o.due, is)
			}
		}
	}
}

// TestEachRingsOrIsStopped: whoever sets, stops, and lets time pass: each timer rings once, or is stopped.
func TestEachRingsOrIsStopped(t *testing.T) {
	rang, stopped := int64(0), int64(0)
	for range 20 {
		for what, p := range map[string]party{
			"one of each":         {1, 3000, 3, 1, 1, 1},
			"many set":            {4, 1000, 3, 1, 1, 1},
			"many stop":           {2, 1500, 3, 4, 1, 1},
			"many advance":        {2, 1500, 2, 1, 4, 1},
			"many of each":        {3, 1000, 4, 2, 3, 0},
			"of dues far ahead":   {3, 1000, 40, 2, 2, 0},
			"all are due at once": {3, 1000, 0, 2, 2, 0},
			"nobody else stops":   {4, 1000, 2, 0, 4, 0},
		} {
			x := passes(p)
			x.holds(t, what)
			rang += x.rung.Load()
			for _, o := range x.all {
				stopped += o.stops.Load()
			}
		}
	}
	if rang < 10000 || stopped < 10000 {
		t.Errorf("the hands are no good: %d ring, %d are stopped", rang, stopped)
	}
}

// TestStoppedByTheMachine: the same, where there are more hands than the machine lets go at one time, so that it stops them in the midst of their calls for a while.
func TestStoppedByTheMachine(t *testing.T) {
	defer runtime.GOMAXPROCS(runtime.GOMAXPROCS(4 * hands))
	for range 100 {
		x := passes(party{8, 300, 3, 4, 4, 0})
		x.holds(t, "who are stopped")
	}
}

// TestFreeInOrder: one lets time pass, others set and stop timers.
func TestFreeInOrder(t *testing.T) {
	for range 8 {
		for what, p := range map[string]party{
			"a few, near":  {2, 500, 3, 1, 1, 0},
			"many":         {4, 300, 8, 1, 1, 0},
			"nobody stops": {4, 300, 5, 0, 1, 0},
		} {
			x := passes(p)
			x.holds(t, what)
			x.inOrder(t, what)
		}
	}
}

// told: what a hand was told at a meeting.
type told struct {
	timers []clock.Timer // that it set
	stops  int           // how many it stopped
	rung   int
	passed int64
	busy   int // how many of its calls were told so
	full   int
	wrong  int
}

func (a *told) sets(c *clock.Clock, due int64, f func(t *gate.Thread)) {
	switch x, e := c.Set(nil, due, f); {
	case e == api.OK:
		a.timers = append(a.timers, x)
	case e == api.ErrFull && x == clock.Timer{}:
		a.full++
	default:
		a.wrong++
	}
}

func (a *told) stop(c *clock.Clock, x clock.Timer) {
	if c.Stop(nil, x) {
		a.stops++
	}
}

func (a *told) advances(c *clock.Clock, d int64) {
	switch n, e := c.Advance(nil, d); {
	case e == api.OK:
		a.rung += n
		a.passed += d
	case e == api.ErrBusy && n == 0:
		a.busy++
	default:
		a.wrong++
	}
}

// plus: what all hands were told.
func (a told) plus(b told) told {
	return told{append(slices.Clip(a.timers), b.timers...), a.stops + b.stops, a.rung + b.rung, a.passed + b.passed, a.busy + b.busy, a.full + b.full, a.wrong + b.wrong}
}

// met: a clock at which hands met.
type met struct {
	c      *clock.Clock
	rang   int  // plain: of Advances one goes on at a time
	yields bool // what rings lets others go, where the machine has but one processor, too
}

func (m *met) rings(*gate.Thread) {
	if m.rang++; m.yields {
		runtime.Gosched()
	}
}

// meet: hands meet at clocks with so many timers of the due 1. holds says whether what all were told is as it is to be, behind an Advance that rings what is left.
func meet(t *testing.T, timers int, f func(m *met, hand, i int, a *told), holds func(m *met, all told, left int) bool) {
	t.Helper()
	clocks := make([]met, meetings)
	for i := range clocks {
		clocks[i] = met{c: clock.New(), yields: i%4 == 0}
		for range timers {
			clocks[i].c.Set(nil, 1, clocks[i].rings)
		}
	}
	var got [hands][meetings]told
	aid.Together(hands, meetings, func(h, i int) { f(&clocks[i], h, i, &got[h][i]) })
	for i := range clocks {
		var all told
		for h := range hands {
			all = all.plus(got[h][i])
		}
		m := &clocks[i]
		now := m.c.Now(nil)
		left, e := m.c.Advance(nil, 1<<40)
		slices.SortFunc(all.timers, func(a, b clock.Timer) int { return cmp.Or(a.Slot-b.Slot, int(a.Ring-b.Ring)) })
		unlike := len(slices.Compact(slices.Clone(all.timers))) == len(all.timers)
		if all.wrong > 0 || now != all.passed || e != api.OK || m.rang != all.rung+left || timers+len(all.timers) != m.rang+all.stops || !unlike || !holds(m, all, left) {
			t.Fatalf("what follows: at the meeting %d: %+v; it is %d, %d ring behind that, %d rang: %d", i, all, now, left, m.rang, e)
		}
	}
}

// TestOneStops: of those who stop one timer together one is told that he does.
func TestOneStops(t *testing.T) {
	meet(t, 1, func(m *met, h, _ int, a *told) { a.stop(m.c, timer(0, 2)) }, func(m *met, all told, left int) bool { return all.stops == 1 && left == 0 })
}

// TestStopsMeetAnAdvance: timers are due, and are stopped meanwhile.
func TestStopsMeetAnAdvance(t *testing.T) {
	rang, stopped := 0, 0
	meet(t, 3, func(m *met, h, i int, a *told) {
		if h == i%hands {
			a.advances(m.c, 1)
			return
		}
		for k := range 3 {
			a.stop(m.c, timer((h+k)%3, 2))
		}
	}, func(m *met, all told, left int) bool {
		rang, stopped = rang+all.rung, stopped+all.stops
		return left == 0 && all.rung+all.stops == 3
	})
	if rang == 0 || stopped == 0 {
		t.Errorf("the calls are no good: %d ring, %d are stopped", rang, stopped)
	}
}

// TestAdvancesMeet: those who advance together are told that another one does, or ring what is due.
func TestAdvancesMeet(t *testing.T) {
	busy := 0
	meet(t, 4, func(m *met, h, _ int, a *told) { a.advances(m.c, 1) }, func(m *met, all told, left int) bool {
		busy += all.busy
		return left == 0 && all.passed >= 1 && all.busy == hands-int(all.passed)
	})
	if busy == 0 {
		t.Errorf("the calls are no good")
	}
}

// firstUses: whether these are timers of the first uses of so many slots.
func firstUses(l []clock.Timer, n int) bool {
	for i, x := range l {
		if x != timer(i, 2) {
			return false
		}
	}
	return len(l) == n
}

// TestSetsMeet: where there is a slot for each.
func TestSetsMeet(t *testing.T) {
	meet(t, 0, func(m *met, h, _ int, a *told) {
		a.sets(m.c, 5, m.rings)
		a.sets(m.c, 5, m.rings)
	}, func(m *met, all told, left int) bool { return left == 16 && firstUses(all.timers, 16) })
}

// TestSomeAreSet: where there are slots for some: nobody is refused while one is free.
func TestSomeAreSet(t *testing.T) {
	meet(t, 0, func(m *met, h, _ int, a *told) {
		for range 3 {
			a.sets(m.c, 5, m.rings)
		}
	}, func(m *met, all told, left int) bool {
		return left == 16 && firstUses(all.timers, 16) && all.full == 3*hands-16
	})
}

// TestSetsMeetAnAdvance: what is set, and is due, rings in that Advance or in the next one, once.
func TestSetsMeetAnAdvance(t *testing.T) {
	rang, later := 0, 0
	meet(t, 1, func(m *met, h, i int, a *told) {
		if h == i%hands {
			a.advances(m.c, 1)
			return
		}
		a.sets(m.c, int64(h%2), m.rings)
	}, func(m *met, all told, left int) bool {
		rang, later = rang+all.rung, later+left
		return all.rung >= 1 && all.full == 0
	})
	if rang <= meetings || later == 0 {
		t.Errorf("the calls are no good: %d ring, %d ring later", rang, later)
	}
}

// TestAllMeet: some set, some stop, some advance, again and again.
func TestAllMeet(t *testing.T) {
	meet(t, 2, func(m *met, h, i int, a *told) {
		switch (h + i) % 4 {
		case 0:
			a.advances(m.c, 1)
			a.advances(m.c, 0)
		case 1:
			a.stop(m.c, timer(0, 2))
			a.sets(m.c, 1, m.rings)
			a.stop(m.c, timer(0, 6))
		case 2:
			a.sets(m.c, 0, m.rings)
			a.stop(m.c, timer(1, 2))
		default:
			a.sets(m.c, 2, m.rings)
			for _, x := range a.timers {
				a.stop(m.c, x)
			}
		}
	}, func(m *met, all told, left int) bool { return all.full == 0 })
}
