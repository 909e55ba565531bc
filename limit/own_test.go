package limit_test

import (
	"io"
	"runtime"
	"testing"
	"weak"

	"treadle/aid"
	"treadle/api"
	"treadle/clock"
	"treadle/future"
	"treadle/gate"
	"treadle/limit"
	"treadle/token"
)

// What is whose: a call's, a caller's, a thread's, a clock's.

// TestNotLiving: a call that is handed a thread that does not live makes no access of the thread in whose goroutine it is, nor do the functions that are called in it.
func TestNotLiving(t *testing.T) {
	for what, th := range aid.NotLiving() {
		w, got := newWorld(made, usual), ""
		w.awake = true
		r := gate.Run(nil, 9, func(*gate.Thread) {
			got = w.makes(th, withins(0, 0, 3), withins(0, 0, 5), deadlines(0, 0, 4), thens(1, busy("A", adds(), withins(0, 0, 2))), advances(0, 4), completes(0, 5, nil), awaits(1), awaits(2), awaits(3), reasons(1), deadlines(0, 0, 1), cancels(0, 7), waits(2), deadlines(0, 0, 1), withins(0, 0, 1), advances(0, 9))
		})
		want := "within(0,0,3):#1 within(0,0,5):#2 deadline(0,0,4):#1 then1:ok A:late_3( add:1 within(0,0,2):#3 ) advance0(4):2 complete0:yes await1:late_3 await2:5 await3:5 reason1:1 deadline(0,0,1):#2 cancel0(7):yes wait2:7 deadline(0,0,1):#3 within(0,0,1):#4 advance0(9):0"
		if got != want || len(r.Log) != 0 || r.End != api.Over {
			t.Errorf("P17.1, P17.2: %s: %s, not %s: %+v", what, got, want, r)
		}
	}
}

// TestEachIsItsOwn: what waits for the same, or stands below the same, has its own time, and its own end; clocks do not know of one another.
func TestEachIsItsOwn(t *testing.T) {
	w := ours(plan{2, 2, 1})
	got := w.alone(withins(0, 0, 3), withins(0, 0, 3), withins(1, 0, 3), withins(0, 1, 3), completes(2, 9, io.EOF), advances(0, 3), peeks(2), peeks(3), peeks(4), peeks(5), completes(0, 5, nil), peeks(2), peeks(3), peeks(4), peeks(1), completes(1, 6, nil), peeks(5),
		deadlines(0, 0, 3), deadlines(0, 0, 3), deadlines(1, 0, 3), cancels(1, 9), advances(0, 3), reasons(1), reasons(2), reasons(3), reasons(0), advances(1, 2), reasons(3), advances(1, 1), reasons(3))
	want := "within(0,0,3):#2 within(0,0,3):#3 within(1,0,3):#4 within(0,1,3):#5 complete2:yes advance0(3):3 peek2:EOF peek3:late_3 peek4:none peek5:late_3 complete0:yes peek2:EOF peek3:late_3 peek4:5 peek1:none complete1:yes peek5:late_3" +
		" deadline(0,0,3):#1 deadline(0,0,3):#2 deadline(1,0,3):#3 cancel1(9):yes advance0(3):1 reason1:9 reason2:1 reason3:0 reason0:0 advance1(2):0 reason3:0 advance1(1):1 reason3:1"
	if got != want || len(w.follows(true)) != 0 {
		t.Errorf("P17.1, P17.2: %s\nnot %s: %v", got, want, w.follows(true))
	}
}

// TestFromOutside: what is answered is a future, and a token: whoever completes or cancels it first is told so; what it waits for, or stands below, goes on.
func TestFromOutside(t *testing.T) {
	by(t, func(who string, th *gate.Thread) {
		c, f, k := clock.New(), future.New(), token.New()
		g, _ := limit.Within(th, c, f, 3)
		x, _ := limit.Deadline(th, c, k, 4)
		p := g.Claim(th)
		if p == nil || !f.Complete(th, 5, nil) || g.Complete(th, 8, nil) || !p.Fill(th, 9, io.EOF) || !x.Cancel(th, 6) || x.Cancel(th, 7) || !k.Cancel(th, 8) {
			t.Errorf("P17.1, P17.2: by %s", who)
		}
		rang, _ := c.Advance(th, 9) // nobody was told that he fills it: nobody has stopped its timer
		if a, b := aid.Told(g.Await(th)), aid.Told(f.Await(th)); a != aid.Told(0, io.EOF) || b != aid.Told(5, nil) || x.Reason(th) != 6 || k.Reason(th) != 8 || rang != 1 {
			t.Errorf("P17.1, P17.2: by %s: %v %v %d %d; %d ring", who, a, b, x.Reason(th), k.Reason(th), rang)
		}
	})
}

// value: one that holds memory.
type value [100]int

func isKept[T any](p weak.Pointer[T]) bool {
	for range 9 {
		runtime.GC()
	}
	return p.Value() != nil
}

// holds: an error that holds memory.
type holds struct{ value }

func (*holds) Error() string { return "holds" }

// TestNoFutureIsKept: one that is filled is kept by the clock no more, and by what it waited for only as long as that is open. What it waits for is kept neither by it nor by the clock; no thread is kept.
func TestNoFutureIsKept(t *testing.T) {
	for what, row := range map[string]struct {
		does         func(th *gate.Thread, c *clock.Clock, f, g *future.Future)
		byClock, byF bool
	}{
		"waits":                 {func(*gate.Thread, *clock.Clock, *future.Future, *future.Future) {}, true, true},
		"time passes":           {func(th *gate.Thread, c *clock.Clock, _, _ *future.Future) { c.Advance(th, 2) }, true, true},
		"it comes":              {func(th *gate.Thread, _ *clock.Clock, f, _ *future.Future) { f.Complete(th, 5, nil) }, false, false},
		"it comes, an error":    {func(th *gate.Thread, _ *clock.Clock, f, _ *future.Future) { f.Complete(th, 5, io.EOF) }, false, false},
		"it is late":            {func(th *gate.Thread, c *clock.Clock, _, _ *future.Future) { c.Advance(th, 3) }, false, true},
		"it is late, and comes": {func(th *gate.Thread, c *clock.Clock, f, _ *future.Future) { c.Advance(th, 3); f.Complete(th, 5, nil) }, false, false},
		"from outside":          {func(th *gate.Thread, _ *clock.Clock, _, g *future.Future) { g.Complete(th, 5, nil) }, true, true},
		"from outside, and it comes": {func(th *gate.Thread, _ *clock.Clock, f, g *future.Future) {
			g.Complete(th, 5, nil)
			f.Complete(th, 6, nil)
		}, true, false},
		"from outside, and late": {func(th *gate.Thread, c *clock.Clock, _, g *future.Future) { g.Complete(th, 5, nil); c.Advance(th, 3) }, false, true},
	} {
		made := func() (c *clock.Clock, f, g *future.Future, by [2]weak.Pointer[gate.Thread]) {
			c, f = clock.New(), future.New()
			gate.Run(nil, api.MaxTurns, func(th *gate.Thread) {
				by[0] = weak.Make(th)
				g, _ = limit.Within(th, c, f, 3)
			})
			gate.Run(nil, api.MaxTurns, func(th *gate.Thread) {
				by[1] = weak.Make(th)
				row.does(th, c, f, g)
			})
			return c, f, g, by
		}
		c, f, g, by := made()
		x, y := weak.Make(f), weak.Make(g)
		if isKept(by[0]) || isKept(by[1]) {
			t.Errorf("what is kept: %s: the threads", what)
		}
		runtime.KeepAlive(f)
		if isKept(x) {
			t.Errorf("what is kept: %s: what it waits for, by it or by the clock", what)
		}
		runtime.KeepAlive(g)
		if isKept(y) != row.byClock {
			t.Errorf("what is kept: %s: by the clock: %v", what, !row.byClock)
		}
		runtime.KeepAlive(c)
		_, f, g, _ = made()
		if y = weak.Make(g); isKept(y) != row.byF {
			t.Errorf("what is kept: %s: by what it waits for: %v", what, !row.byF)
		}
		runtime.KeepAlive(f)
	}
}

// TestNoTokenIsKept: one that is cancelled is kept by the clock no more, nor by the one above it, and keeps the clock no more. The one above is kept neither by it nor by the clock; no thread is kept.
func TestNoTokenIsKept(t *testing.T) {
	for what, row := range map[string]struct {
		does func(th *gate.Thread, c *clock.Clock, k, x *token.Token)
		kept bool
	}{
		"lives":                 {func(*gate.Thread, *clock.Clock, *token.Token, *token.Token) {}, true},
		"time passes":           {func(th *gate.Thread, c *clock.Clock, _, _ *token.Token) { c.Advance(th, 2) }, true},
		"a Cancel that is none": {func(th *gate.Thread, _ *clock.Clock, k, x *token.Token) { k.Cancel(th, 0); x.Cancel(th, -1) }, true},
		"it is cancelled":       {func(th *gate.Thread, _ *clock.Clock, k, x *token.Token) { x.Cancel(th, 7); k.Cancel(th, 8) }, false},
		"with the one above":    {func(th *gate.Thread, _ *clock.Clock, k, _ *token.Token) { k.Cancel(th, 7) }, false},
		"its time is over":      {func(th *gate.Thread, c *clock.Clock, k, _ *token.Token) { c.Advance(th, 3); k.Cancel(th, 7) }, false},
	} {
		made := func() (c *clock.Clock, k, x *token.Token, by [2]weak.Pointer[gate.Thread]) {
			c, k = clock.New(), token.New()
			gate.Run(nil, api.MaxTurns, func(th *gate.Thread) {
				by[0] = weak.Make(th)
				x, _ = limit.Deadline(th, c, k, 3)
			})
			gate.Run(nil, api.MaxTurns, func(th *gate.Thread) {
				by[1] = weak.Make(th)
				row.does(th, c, k, x)
			})
			return c, k, x, by
		}
		c, k, x, by := made()
		own := weak.Make(x)
		if isKept(by[0]) || isKept(by[1]) {
			t.Errorf("what is kept: %s: the threads", what)
		}
		runtime.KeepAlive(x)
		if isKept(own) != row.kept {
			t.Errorf("what is kept: %s: it: %v", what, !row.kept)
		}
		runtime.KeepAlive(k)
		runtime.KeepAlive(c)
		c, k, x, _ = made()
		above, timer := weak.Make(k), weak.Make(c)
		if isKept(above) {
			t.Errorf("what is kept: %s: the one above", what)
		}
		runtime.KeepAlive(c)
		if isKept(timer) != row.kept {
			t.Errorf("what is kept: %s: the clock, by it: %v", what, !row.kept)
		}
		runtime.KeepAlive(x)
	}
}

// TestErrorsAreNotKept: what a future came to is not kept by the clock, nor by another one that was late ahead of it.
func TestErrorsAreNotKept(t *testing.T) {
	for _, late := range []bool{false, true} {
		made := func() (c *clock.Clock, g *future.Future, e weak.Pointer[holds]) {
			c = clock.New()
			f, err := future.New(), new(holds)
			g, _ = limit.Within(nil, c, f, 3)
			if late {
				c.Advance(nil, 3)
			}
			f.Complete(nil, 0, err)
			return c, g, weak.Make(err)
		}
		c, g, e := made()
		if isKept(e) == late {
			t.Errorf("what is kept: late %v: its error: %v", late, !late)
		}
		runtime.KeepAlive(g)
		if g = nil; isKept(e) {
			t.Errorf("what is kept: late %v: its error, by the clock", late)
		}
		runtime.KeepAlive(c)
	}
}
