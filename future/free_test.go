package future_test

import (
	"io"
	"math/rand"
	"runtime"
	"slices"
	"sync/atomic"
	"testing"
	"testing/synctest"

	"treadle/aid"
	"treadle/api"
	"treadle/fault"
	"treadle/future"
	"treadle/gate"
)

// (What plain memory is handed on the race detector sees besides.)

const hands, meetings = 8, 20000

// asleep: an Await in a goroutine of its own, and what it was told.
type asleep struct {
	answered bool
	got      aid.Answer
}

// begun: so many who await; they have been answered, or sleep.
func begun(th *gate.Thread, x *future.Future, n int) (l []*asleep) {
	for range n {
		s := &asleep{}
		l = append(l, s)
		go func() {
			s.got = aid.Told(x.Await(th))
			s.answered = true
		}()
	}
	synctest.Wait()
	return l
}

// answered: how many of them were.
func answered(l []*asleep) (n int) {
	for _, s := range l {
		n += aid.Digit(s.answered)
	}
	return n
}

// TestWhoAwaitsSleeps until the future is filled, by whatever thread that does not live; who comes later does not. (In a bubble of synctest Wait answers when all others sleep: who goes round and looks does not; a bubble whose goroutines all sleep for good fails.)
func TestWhoAwaitsSleeps(t *testing.T) {
	defer inTime()()
	for _, th := range aid.FreeThreads() {
		for _, is := range []aid.Answer{aid.Told(5, nil), aid.Told(0, nil), aid.Told(0, io.EOF), aid.Told(0, &fault.Late{Due: 4})} {
			synctest.Test(t, func(t *testing.T) {
				x, goes := future.New(), make(chan int)
				g, _ := x.Map(th, func(v int64) (int64, error) { <-goes; return v, nil })
				x.Then(th, func(*gate.Thread, int64, error) { <-goes })
				l, maps := begun(th, x, 5), begun(th, g, 5)
				p := x.Claim(th)
				l = append(l, begun(th, x, 5)...)
				if p == nil || x.Complete(th, 9, nil) || answered(l) != 0 {
					t.Errorf("what follows: %d answer ahead of the filling", answered(l))
				}
				did := false
				go func() { did = p.Fill(th, is.V, is.E) }()
				l = append(l, begun(th, x, 5)...)
				if answered(l) != len(l) || answered(maps) != len(maps)*aid.Digit(is.E != nil) {
					t.Errorf("P14.2, what follows: as the functions go on %d answer, and %d of those who await the Map's", answered(l), answered(maps))
				}
				close(goes)
				for i, s := range slices.Concat(l, maps, begun(th, x, 5), begun(th, g, 5)) {
					if s.got != is || !s.answered {
						t.Errorf("what follows: the Await %d: %v: is told %v, not %v", i, s.answered, s.got, is)
					}
				}
				if !did {
					t.Error("P14.2: it is not done")
				}
			})
		}
	}
}

// deal: a function that somebody hands in. What is plain of it is his, or that of whoever calls it.
type deal struct {
	laid    int // 1, laid ahead of its Then
	refused bool
	called  int
	told    aid.Answer
	wrong   int
}

// point: a future at which hands meet, and what comes of it.
type point struct {
	i    int // the number of the meeting
	x    *future.Future
	laid []int // what each hand lays ahead of its filling
	got  []heard
}

// heard: what a hand was told at a meeting.
type heard struct {
	claimed, filled int // how many of its calls did so
	told            []aid.Answer
	deals           []*deal
	maps            []*future.Future
	wrong           int
}

func newPoint(i, hands int) *point {
	m := &point{i: i, x: future.New(), laid: make([]int, hands), got: make([]heard, hands+1)}
	first := &m.got[hands] // of nobody: ahead of all
	m.thens(first)
	m.maps(first)
	return m
}

// with: what the hand fills it with. Whoever is told that finds what was laid ahead.
func (m *point) with(h int) (int64, error) {
	m.laid[h] = m.i + 1
	if (h+m.i)%3 == 0 {
		return 7, &fault.Failed{Code: int64(h)}
	}
	return int64(h), nil
}

// fits: whether it is what a hand laid, and filled it with.
func (m *point) fits(a aid.Answer) bool {
	h := a.V
	if f, is := a.E.(*fault.Failed); is && f != nil && a.V == 0 {
		h = f.Code
	} else if a.E != nil {
		return false
	}
	return h >= 0 && int(h) < len(m.laid) && m.laid[h] == m.i+1
}

func (m *point) completes(a *heard, h int) {
	v, e := m.with(h)
	done := m.x.Complete(nil, v, e)
	a.claimed, a.filled = a.claimed+aid.Digit(done), a.filled+aid.Digit(done)
}

func (m *point) claims(a *heard, h int) {
	p := m.x.Claim(nil)
	if p == nil {
		return
	}
	a.claimed++
	v, e := m.with(h)
	a.filled += aid.Digit(p.Fill(nil, v, e))
	a.wrong += aid.Digit(p.Fill(nil, v+1, nil))
}

// hears: what somebody is told.
func (m *point) hears(a *heard, told aid.Answer) {
	a.told = append(a.told, told)
	a.wrong += aid.Digit(!m.fits(told))
}

func (m *point) awaits(a *heard) { m.hears(a, aid.Told(m.x.Await(nil))) }

func (m *point) peeks(a *heard) (done bool) {
	v, e, done := m.x.Peek(nil)
	if done {
		m.hears(a, aid.Told(v, e))
	}
	a.wrong += aid.Digit(!done && (v != 0 || e != nil))
	return done
}

func (m *point) thens(a *heard) {
	d := &deal{laid: 1}
	a.deals = append(a.deals, d)
	e := m.x.Then(nil, func(u *gate.Thread, v int64, err error) {
		d.called++
		d.told = aid.Told(v, err)
		_, _, done := m.x.Peek(nil)
		d.wrong += aid.Digit(d.laid != 1) + aid.Digit(!m.fits(d.told)) + aid.Digit(u != nil) + aid.Digit(!done)
	})
	d.refused = e == api.ErrFull
	a.wrong += aid.Digit(e != api.OK && e != api.ErrFull)
}

func (m *point) maps(a *heard) {
	g, e := m.x.Map(nil, func(v int64) (int64, error) { return v + 1000, nil })
	if a.wrong += aid.Digit((g == nil) != (e != api.OK)); g != nil {
		a.maps = append(a.maps, g)
	}
}

// holds: whether what the hands were told is as it is to be: just one fills it; all are told the same; each function is called once; each Map comes to what it makes.
func (m *point) holds() bool {
	last := aid.Told(m.x.Await(nil))
	made := aid.Told(last.V+1000, nil)
	if last.E != nil {
		made = last
	}
	claimed, filled, wrong := 0, 0, 0
	for _, a := range m.got {
		claimed, filled, wrong = claimed+a.claimed, filled+a.filled, wrong+a.wrong
		for _, told := range a.told {
			wrong += aid.Digit(told != last)
		}
		for _, d := range a.deals {
			wrong += d.wrong + aid.Digit(d.called != aid.Digit(!d.refused)) + aid.Digit(d.called == 1 && d.told != last)
		}
		for _, g := range a.maps {
			wrong += aid.Digit(aid.Told(g.Await(nil)) != made)
		}
	}
	return wrong == 0 && claimed == 1 && filled == 1 && m.fits(last) && m.x.Claim(nil) == nil && !m.x.Complete(nil, 9, nil)
}

// meet: so many hands meet, each time at another future, which they fill.
func meet(t *testing.T, hands, meetings int, f func(m *point, hand int, a *heard)) []*point {
	t.Helper()
	all := make([]*point, meetings)
	for i := range all {
		all[i] = newPoint(i, hands)
	}
	defer inTime()()
	aid.Together(hands, meetings, func(h, i int) { f(all[i], h, &all[i].got[h]) })
	for i, m := range all {
		if !m.holds() {
			t.Fatalf("what follows: at the meeting %d: it came to %v; %+v", i, aid.Told(m.x.Await(nil)), m.got)
		}
	}
	return all
}

// TestCompletesMeet: of those who complete one future together one does.
func TestCompletesMeet(t *testing.T) {
	for _, n := range []int{2, 2, 3, hands} { // few may go at one time where the machine has few processors
		meet(t, n, meetings, func(m *point, h int, a *heard) {
			m.completes(a, h)
			if (h+m.i)%2 == 0 {
				m.awaits(a)
			}
		})
	}
}

// TestClaimsMeet: of those who claim one future together one does, and fills it; others complete it.
func TestClaimsMeet(t *testing.T) {
	for _, n := range []int{2, 2, 3, hands} {
		meet(t, n, meetings, func(m *point, h int, a *heard) {
			if (h+m.i)%3 == 2 {
				m.completes(a, h)
			} else {
				m.claims(a, h)
			}
			m.peeks(a)
			m.awaits(a)
			m.peeks(a)
		})
	}
}

// TestThensMeetAComplete: functions come while one completes: each is called once, by the end of both calls, whoever calls it.
func TestThensMeetAComplete(t *testing.T) {
	for _, n := range []int{2, 2, 2, 3, hands} {
		meet(t, n, meetings, func(m *point, h int, a *heard) {
			if h == m.i%n {
				m.completes(a, h)
			}
			m.thens(a)
			m.thens(a)
		})
	}
}

// TestMapsMeetAComplete: Maps are made while one completes: each future of them is filled, by the end of both calls.
func TestMapsMeetAComplete(t *testing.T) {
	for _, n := range []int{2, 2, 3, hands} {
		meet(t, n, meetings, func(m *point, h int, a *heard) {
			if h == m.i%n {
				m.claims(a, h)
			}
			m.maps(a)
			if m.maps(a); m.i%2 == 0 {
				a.maps[1].Await(nil)
			}
		})
	}
}

// TestAwaitsMeetAComplete: whoever awaits, or peeks, is told what it came to, behind the filling.
func TestAwaitsMeetAComplete(t *testing.T) {
	for _, n := range []int{2, 3, hands} {
		meet(t, n, meetings, func(m *point, h int, a *heard) {
			m.peeks(a)
			if h == m.i%n {
				if m.i%5 == 0 {
					runtime.Gosched()
				}
				m.completes(a, h)
			}
			m.peeks(a)
			m.awaits(a)
			m.awaits(a)
		})
	}
}

// TestPeeksMeetAComplete: whoever peeks as it is filled is told all of it, or nothing.
func TestPeeksMeetAComplete(t *testing.T) {
	for _, n := range []int{2, 2, 2, 3, hands} {
		meet(t, n, meetings, func(m *point, h int, a *heard) {
			if h == m.i%n {
				m.completes(a, h)
			}
			for looks := 0; looks < 100 && !m.peeks(a); looks++ {
			}
		})
	}
}

// TestLastPlacesMeet: more functions come together than there is room for, while one fills; who is refused is not called.
func TestLastPlacesMeet(t *testing.T) {
	for _, n := range []int{2, 3, hands} {
		refused, filled := 0, 0
		all := meet(t, n, meetings/4, func(m *point, h int, a *heard) {
			for range 60/n + 1 {
				m.thens(a)
			}
			if h == m.i%n {
				m.completes(a, h)
			}
			for range 20/n + 2 {
				m.thens(a)
			}
		})
		for _, m := range all {
			for _, a := range m.got {
				for _, d := range a.deals {
					refused, filled = refused+aid.Digit(d.refused), filled+aid.Digit(d.called == 1)
				}
			}
		}
		if refused < 100 || filled < 30*meetings/4 {
			t.Errorf("the hands are no good: of %d %d are refused, %d called", n, refused, filled)
		}
	}
}

// allMeet: some complete, some claim, some bring functions, some map, all await.
func allMeet(m *point, h int, a *heard) {
	switch (h + m.i) % 4 {
	case 0:
		m.thens(a)
		m.completes(a, h)
	case 1:
		m.claims(a, h)
		m.maps(a)
	case 2:
		m.peeks(a)
		m.thens(a)
		m.completes(a, h)
	default:
		m.maps(a)
		m.thens(a)
		m.peeks(a)
	}
	m.awaits(a)
	m.thens(a)
}

func TestAllMeet(t *testing.T) { meet(t, hands, 2*meetings, allMeet) }

// TestStoppedByTheMachine: the same, where there are more hands than the machine lets go at one time, so that it stops them in the midst of their calls for a while.
func TestStoppedByTheMachine(t *testing.T) {
	defer runtime.GOMAXPROCS(runtime.GOMAXPROCS(4 * hands))
	meet(t, 3*hands, meetings/2, allMeet)
}

// net: futures whose functions complete others that are behind them, and hands that do so from outside.
type net struct {
	all   []*future.Future
	done  []atomic.Int64 // of each, how many Completes and Fills answered true; what it was filled with, 1000 fold, besides
	given []atomic.Int64 // how many functions were handed in, and not refused
	calls []atomic.Int64 // how many were called
	amiss atomic.Int64
}

func newNet(n int) *net {
	x := &net{done: make([]atomic.Int64, n), given: make([]atomic.Int64, n), calls: make([]atomic.Int64, n)}
	for range n {
		x.all = append(x.all, future.New())
	}
	return x
}

func (x *net) fills(i int, v int64) {
	if x.all[i].Complete(nil, v, nil) {
		x.done[i].Add(1000*v + 1)
	}
}

// does makes some call of the future i.
func (x *net) does(r *rand.Rand, i int) {
	y := x.all[i]
	switch r.Intn(7) {
	case 0:
		x.fills(i, r.Int63n(1000))
	case 1:
		if p := y.Claim(nil); p != nil {
			v := r.Int63n(1000)
			x.amiss.Add(int64(aid.Digit(!p.Fill(nil, v, nil)) + aid.Digit(p.Fill(nil, v+1, nil))))
			x.done[i].Add(1000*v + 1)
		}
	case 2:
		v, e, done := y.Peek(nil)
		runtime.Gosched()
		w, f, still := y.Peek(nil)
		x.amiss.Add(int64(aid.Digit(done && (!still || v != w || e != f))))
	case 3:
		g, e := y.Map(nil, func(v int64) (int64, error) { return v + 1, nil })
		if e == api.OK {
			x.gives(i, func(*gate.Thread, int64, error) {
				v, e := g.Await(nil) // it stands ahead in the list, or was called at once
				w, f := y.Await(nil)
				x.amiss.Add(int64(aid.Digit(v != w+1 || e != nil || f != nil)))
			})
		}
	default:
		to, v := i+1+r.Intn(len(x.all)), r.Int63n(1000)
		x.gives(i, func(*gate.Thread, int64, error) {
			if to < len(x.all) {
				x.fills(to, v)
			}
		})
	}
}

// gives hands in a function.
func (x *net) gives(i int, f function) {
	e := x.all[i].Then(nil, func(u *gate.Thread, v int64, err error) {
		x.calls[i].Add(1)
		w, is := x.all[i].Await(nil)
		x.amiss.Add(int64(aid.Digit(u != nil || v != w || err != is)))
		f(u, v, err)
	})
	if e == api.OK {
		x.given[i].Add(1)
	}
	x.amiss.Add(int64(aid.Digit(e != api.OK && e != api.ErrFull)))
}

// TestNets: hands that fill, bring functions, map and look as they like.
func TestNets(t *testing.T) {
	const futures = 40
	called, given := int64(0), int64(0)
	defer inTime()()
	for seed := range int64(1500) {
		x := newNet(futures)
		aid.Beside(hands, func(h int) {
			r := rand.New(rand.NewSource(seed*hands + int64(h)))
			for range 60 {
				x.does(r, r.Intn(futures))
			}
			for i := range x.all {
				x.all[i].Complete(nil, 0, nil)
				x.all[i].Await(nil)
			}
		})
		for i, y := range x.all {
			v, e := y.Await(nil)
			done := x.done[i].Load()
			if done != 0 && done != 1000*v+1 || done == 0 && v != 0 || e != nil || x.given[i].Load() != x.calls[i].Load() || x.amiss.Load() != 0 {
				t.Fatalf("what follows: seed %d: the future %d: %d %v, filled so: %d; %d functions, %d are called; %d times amiss", seed, i, v, e, done, x.given[i].Load(), x.calls[i].Load(), x.amiss.Load())
			}
			called, given = called+x.calls[i].Load(), given+x.given[i].Load()
		}
	}
	if called < 100000 {
		t.Errorf("the hands are no good: %d of %d functions are called", called, given)
	}
}
