package limit_test

import (
	"runtime"
	"strconv"
	"sync/atomic"
	"testing"
	"testing/synctest"

	"treadle/aid"
	"treadle/api"
	"treadle/clock"
	"treadle/fault"
	"treadle/future"
	"treadle/gate"
	"treadle/limit"
	"treadle/token"
)

// (What plain memory is handed on the race detector sees besides.)

const hands, meetings = 8, 10000

// sleeper: one who asks for something in a goroutine of his own, and what he was told.
type sleeper struct {
	answered bool
	got      string
}

// begun: so many who ask; they have been answered, or sleep.
func begun(n int, asks func() string) (l []*sleeper) {
	for range n {
		s := &sleeper{}
		l = append(l, s)
		go func() {
			s.got = asks()
			s.answered = true
		}()
	}
	synctest.Wait()
	return l
}

// TestWhoAwaitsSleeps until it comes, or time has passed, and no longer, by whatever thread that does not live. (In a bubble of synctest Wait answers when all others sleep: who goes round and looks does not; a bubble whose goroutines all sleep for good fails.)
func TestWhoAwaitsSleeps(t *testing.T) {
	defer inTime()()
	for _, th := range aid.FreeThreads() {
		for _, row := range []struct {
			does func(c *clock.Clock, f *future.Future, k *token.Token)
			told [2]string // those who await the future, and the token
		}{
			{func(c *clock.Clock, _ *future.Future, _ *token.Token) { c.Advance(th, 3) }, [2]string{"late_3", "1"}},
			{func(_ *clock.Clock, f *future.Future, k *token.Token) { f.Complete(th, 5, nil); k.Cancel(th, 7) }, [2]string{"5", "7"}},
			{func(_ *clock.Clock, f *future.Future, k *token.Token) { k.Cancel(th, 8); f.Complete(th, 0, failed(6)) }, [2]string{"failed_6", "8"}},
		} {
			synctest.Test(t, func(t *testing.T) {
				c, f, k := clock.New(), future.New(), token.New()
				g, _ := limit.Within(th, c, f, 3)
				x, _ := limit.Deadline(th, c, k, 3)
				awaits := func() string { return aid.Told(g.Await(th)).String() }
				waits := func() string { return strconv.FormatInt(x.Wait(th), 10) }
				all := [2][]*sleeper{begun(2, awaits), begun(2, waits)}
				for n := range 3 {
					for i, l := range all {
						for _, s := range l {
							if s.answered != (n == 2) || s.answered && s.got != row.told[i] {
								t.Errorf("what follows: %d: %v: %s, not %s", n, s.answered, s.got, row.told[i])
							}
						}
					}
					if n == 0 {
						c.Advance(th, 2)
					} else if n == 1 {
						row.does(c, f, k)
					}
					synctest.Wait()
				}
			})
		}
	}
}

// point: where hands meet: a clock, what waits for a future, and what stands below a token; and what they were told.
type point struct {
	c      *clock.Clock
	f, g   *future.Future
	k, x   *token.Token
	behind bool         // it may be made when time has passed
	rang   atomic.Int64 // how many timers rang
	called [2]int       // how often a function of the future is called, and one of the token
	wrong  atomic.Int64
}

func newPoint() *point { return &point{c: clock.New(), f: future.New(), k: token.New()} }

// makes what is there ahead of the hands.
func (p *point) makes() {
	p.within()
	p.deadline()
}

func (p *point) within() {
	p.g, _ = limit.Within(nil, p.c, p.f, 3)
	p.g.Then(nil, func(u *gate.Thread, v int64, e error) {
		p.called[0]++
		p.fault(u != nil || !p.fits(v, e))
	})
}

func (p *point) deadline() {
	p.x, _ = limit.Deadline(nil, p.c, p.k, 3)
	p.x.OnCancel(nil, func(u *gate.Thread, r int64) {
		p.called[1]++
		p.fault(u != nil || r != 1 && r != 7)
	})
}

func (p *point) fault(is bool) { p.wrong.Add(int64(aid.Digit(is))) }

// fits: whether the future may come to that.
func (p *point) fits(v int64, e error) bool {
	late, is := e.(*fault.Late)
	return v == 5 && e == nil || v == 0 && is && (late.Due == 3 || p.behind && late.Due == 6)
}

func (p *point) completes() { p.fault(!p.f.Complete(nil, 5, nil)) }
func (p *point) cancels()   { p.fault(!p.k.Cancel(nil, 7)) }

// advances lets all time pass that there is to be, and tells of it.
func (p *point) advances(d int64) {
	for left := d; left > 0; {
		if n, e := p.c.Advance(nil, d); e == api.OK {
			p.rang.Add(int64(n))
			left = 0
		} else {
			p.fault(e != api.ErrBusy)
			runtime.Gosched()
		}
	}
}

func (p *point) awaits() { p.fault(!p.fits(p.g.Await(nil))) }

func (p *point) waits() {
	r := p.x.Wait(nil)
	p.fault(r != 1 && r != 7)
}

func (p *point) peeks() {
	v, e, done := p.g.Peek(nil)
	p.fault(done && !p.fits(v, e))
	r := p.x.Reason(nil)
	p.fault(r != 0 && r != 1 && r != 7)
}

// holds: what is found when all have ended: each is filled, or cancelled, just once, and each timer has rung, or is stopped.
func (p *point) holds() string {
	v, e, done := p.g.Peek(nil)
	r := p.x.Reason(nil)
	rang := p.rang.Load()
	rest, busy := p.c.Advance(nil, 100)
	least := int64(aid.Digit(e != nil) + aid.Digit(r == 1)) // what is late, and so many more that rang in vain
	switch {
	case p.wrong.Load() != 0:
		return "somebody is told what can't be"
	case !done || !p.fits(v, e) || r != 1 && r != 7:
		return "it comes to " + aid.Told(v, e).String() + "; its reason is " + strconv.FormatInt(r, 10)
	case p.called != [2]int{1, 1}:
		return "a function is not called just once"
	case rest != 0 || busy != api.OK || rang < least || rang > 2:
		return strconv.FormatInt(rang, 10) + " rang, then " + strconv.Itoa(rest)
	case p.f.Complete(nil, 5, nil) || p.k.Cancel(nil, 7) || p.g.Complete(nil, 5, nil):
		return "one was left open"
	}
	for i := range 2 { // each slot that was used is free, and was used once
		if y, e := p.c.Set(nil, 0, func(*gate.Thread) {}); y.Slot != i || y.Ring != 6 || e != api.OK {
			return "a slot is not free"
		}
	}
	return ""
}

// meet: so many hands meet, each time at another point.
func meet(t *testing.T, n, meetings int, first func(p *point), f func(p *point, hand int)) (late, over int) {
	t.Helper()
	all := make([]*point, meetings)
	for i := range all {
		all[i] = newPoint()
		first(all[i])
	}
	defer inTime()()
	aid.Together(n, meetings, func(h, i int) { f(all[i], (h+i)%n) })
	for i, p := range all {
		if s := p.holds(); s != "" {
			t.Fatalf("what follows: at the meeting %d of %d: %s", i, n, s)
		}
		_, e, _ := p.g.Peek(nil)
		late += aid.Digit(e != nil)
		over += aid.Digit(p.x.Reason(nil) == 1)
	}
	return late, over
}

// TestItComesAsTimePasses: hands that do nothing but complete, cancel, and let time pass.
func TestItComesAsTimePasses(t *testing.T) {
	for _, n := range []int{3, 3, 4, hands} { // few may go at one time where the machine has few processors
		late, over := meet(t, n, meetings, (*point).makes, func(p *point, h int) {
			switch h {
			case 0:
				p.completes()
			case 1:
				p.cancels()
			case 2:
				p.advances(3)
			default:
				p.peeks()
			}
		})
		t.Logf("%d hands: %d are late, the time of %d is over", n, late, over)
	}
}

// TestTightly: two hands, one of which lets time pass: the other one completes, or cancels, about when the timer rings.
func TestTightly(t *testing.T) {
	for i := range 4 {
		late, over := meet(t, 2, meetings, func(p *point) {
			p.makes()
			if i%2 == 0 {
				p.cancels()
			} else {
				p.completes()
			}
		}, func(p *point, h int) {
			switch {
			case h == 0:
				p.advances(3)
			case i%2 == 0:
				p.completes()
			default:
				p.cancels()
			}
		})
		t.Logf("%d: %d are late, the time of %d is over", i, late, over)
	}
}

// TestManyAwaitIt: hands that await it as it comes, or is late.
func TestManyAwaitIt(t *testing.T) {
	for _, n := range []int{3, 4, hands} {
		meet(t, n, meetings/2, (*point).makes, func(p *point, h int) {
			switch h {
			case 0:
				p.completes()
				p.waits()
			case 1:
				p.advances(3)
			case 2:
				p.cancels()
				p.awaits()
			default:
				p.awaits()
				p.waits()
			}
		})
	}
}

// TestItIsMadeMeanwhile: it is made while it comes, is cancelled, or time passes. What is made behind that is due later, and is late at the end.
func TestItIsMadeMeanwhile(t *testing.T) {
	for _, n := range []int{2, 3, 4} {
		all := make([]*point, meetings)
		for i := range all {
			all[i] = newPoint()
			all[i].behind = true
		}
		defer inTime()()
		aid.Together(n, meetings, func(h, i int) {
			p := all[i]
			switch h = (h + i) % n; {
			case h == 0 && i%2 == 0:
				p.within()
			case h == 0:
				p.deadline()
			case h == 1 && n == 2 && i%4 < 2, h == 2:
				p.completes()
				p.cancels()
			case h == 1:
				p.advances(3)
			}
		})
		for i, p := range all {
			rest, e := p.c.Advance(nil, 100)
			comes := n > 2 || i%4 < 2
			switch {
			case p.wrong.Load() != 0 || e != api.OK:
				t.Fatalf("what follows: at the meeting %d of %d: %d times somebody is told what can't be", i, n, p.wrong.Load())
			case i%2 == 0:
				_, err, done := p.g.Peek(nil)
				if late := fault.Class(err) == api.ErrTime; !done || !late && !comes || p.called[0] != 1 || comes && rest != 0 || late && rest+int(p.rang.Load()) != 1 {
					t.Fatalf("what follows: at the meeting %d of %d: %v %v; %d rang, then %d", i, n, done, err, p.rang.Load(), rest)
				}
			default:
				r := p.x.Reason(nil)
				if r != 1 && (r != 7 || !comes) || p.called[1] != 1 || comes && rest != 0 || r == 1 && rest+int(p.rang.Load()) != 1 {
					t.Fatalf("what follows: at the meeting %d of %d: %d; %d rang, then %d", i, n, r, p.rang.Load(), rest)
				}
			}
		}
	}
}

// TestSlotsMeet: more come for the slots of one clock than there are, again and again, while time passes; who is refused has none; all others are filled, or cancelled, and leave their slots.
func TestSlotsMeet(t *testing.T) {
	type made struct {
		g      *future.Future
		x      *token.Token
		called atomic.Int64
	}
	for _, n := range []int{2, 3, hands} {
		c, refused, rang := clock.New(), atomic.Int64{}, atomic.Int64{}
		var all [hands][]*made
		defer inTime()()
		aid.Together(n, meetings/2, func(h, i int) {
			m := &made{}
			f, k := future.New(), token.New()
			var e, q api.Errno
			if m.g, e = limit.Within(nil, c, f, int64(i%29)); e == api.OK {
				m.g.Then(nil, func(*gate.Thread, int64, error) { m.called.Add(1) })
			}
			if m.x, q = limit.Deadline(nil, c, k, int64(i%31)); q == api.OK {
				m.x.OnCancel(nil, func(*gate.Thread, int64) { m.called.Add(1) })
			}
			if refused.Add(int64(aid.Digit(e == api.ErrFull) + aid.Digit(q == api.ErrFull))); (e != api.OK && e != api.ErrFull) || (q != api.OK && q != api.ErrFull) || (m.g == nil) != (e != api.OK) || (m.x == nil) != (q != api.OK) {
				t.Errorf("P17.1, P17.2: %d %d", e, q)
			}
			all[h] = append(all[h], m)
			if (h+i)%3 == 0 {
				d, _ := c.Advance(nil, 1)
				rang.Add(int64(d))
			}
			if (h+i)%4 > 0 {
				f.Complete(nil, 5, nil)
			}
			if (h+i)%5 > 0 {
				k.Cancel(nil, 7)
			}
		})
		for rest := 1; rest > 0; {
			rest, _ = c.Advance(nil, 1<<40)
			rang.Add(int64(rest))
		}
		late := 0
		for _, l := range all {
			for _, m := range l {
				_, e, done := m.g.Peek(nil)
				r := m.x.Reason(nil)
				if m.g != nil && !done || m.x != nil && r == 0 || m.called.Load() != int64(aid.Digit(m.g != nil)+aid.Digit(m.x != nil)) {
					t.Fatalf("what follows: of %d: %v %d; %d are called", n, done, r, m.called.Load())
				}
				late += aid.Digit(e != nil) + aid.Digit(r == 1)
			}
		}
		if refused.Load() < 50 || late < 50 || int64(late) > rang.Load() {
			t.Errorf("the hands are no good: of %d %d are refused, %d are late; %d rang", n, refused.Load(), late, rang.Load())
		}
		for i := range 17 {
			if y, e := c.Set(nil, api.MaxTime, func(*gate.Thread) {}); (e == api.OK) != (i < 16) || e == api.OK && y.Slot != i {
				t.Fatalf("what follows: of %d: the slot %d: %d", n, i, e)
			}
		}
	}
}

// TestStoppedByTheMachine: the same, where there are more hands than the machine lets go at one time, so that it stops them in the midst of their calls for a while.
func TestStoppedByTheMachine(t *testing.T) {
	defer runtime.GOMAXPROCS(runtime.GOMAXPROCS(4 * hands))
	meet(t, 2*hands, meetings/4, (*point).makes, func(p *point, h int) {
		switch h {
		case 0:
			p.completes()
		case 1:
			p.cancels()
		case 2, 3:
			p.advances(3)
		default:
			p.awaits()
			p.waits()
		}
	})
}
