package clock_test

import (
	"errors"
	"runtime"
	"slices"
	"testing"
	"weak"

	"treadle/aid"
	"treadle/api"
	"treadle/cell"
	"treadle/clock"
	"treadle/gate"
)

// TestBells: what timers' functions do to their clock, by each thread that does not live, and by one that does.
func TestBells(t *testing.T) {
	for what, th := range aid.NotLiving() {
		bells(t, what, th)
	}
	gate.Run(nil, api.MaxTurns, func(th *gate.Thread) { bells(t, "one that lives", th) })
}

func bells(t *testing.T, who string, th *gate.Thread) {
	b, c := quiet("B"), quiet("C")
	for _, row := range []struct {
		what  string
		calls []call
		want  []answer
	}{
		{"it asks the time", []call{sets(3, busies("A", looks)), advances(5)}, []answer{laid(0, 2), rung(1, "A( 5 ) ")}},
		{"it sets one that is due", []call{sets(3, busies("A", sets(5, b))), advances(5)}, []answer{laid(0, 2), rung(2, "A( 1/2 ) B ")}},
		{"it sets one that is due later", []call{sets(3, busies("A", sets(6, b))), advances(5), advances(1)}, []answer{laid(0, 2), rung(1, "A( 1/2 ) "), rung(1, "B ")}},
		{"it sets one that is due ahead of all others", []call{sets(3, busies("A", sets(0, b))), sets(3, c), advances(5)}, []answer{laid(0, 2), laid(1, 2), rung(3, "A( 2/2 ) B C ")}},
		{"it sets one of the others' due, behind them", []call{sets(3, busies("A", sets(3, b))), sets(3, c), advances(5)}, []answer{laid(0, 2), laid(1, 2), rung(3, "A( 2/2 ) C B ")}},
		{"it sets one of the others' due, ahead of them", []call{sets(3, quiet("D")), sets(2, busies("A", sets(3, b))), sets(1, quiet("E")), sets(3, c), advances(5)}, []answer{laid(0, 2), laid(1, 2), laid(2, 2), laid(3, 2), rung(5, "E A( 2/6 ) D B C ")}},
		{"it sets itself anew", []call{sets(1, endless("A", 3)), advances(2), advances(0), advances(1)}, []answer{laid(0, 2), rung(1, "A( 1/2 ) "), rung(0, ""), rung(64, endlessly("A", 2, 64))}},
		{"it stops one that is due", []call{sets(3, busies("A", stops(1, 2))), sets(4, b), sets(5, c), advances(5), stops(1, 2)}, []answer{laid(0, 2), laid(1, 2), laid(2, 2), rung(2, "A( yes ) C "), no}},
		{"it stops one that is due later", []call{sets(3, busies("A", stops(1, 2))), sets(9, b), advances(5), advances(9)}, []answer{laid(0, 2), laid(1, 2), rung(1, "A( yes ) "), rung(0, "")}},
		{"it stops one that has rung", []call{sets(3, busies("A", stops(1, 2))), sets(2, b), advances(5)}, []answer{laid(0, 2), laid(1, 2), rung(2, "B A( no ) ")}},
		{"it stops itself", []call{sets(3, busies("A", stops(0, 2), stops(0, 2))), advances(5), stops(0, 2)}, []answer{laid(0, 2), rung(1, "A( no no ) "), no}},
		{"it stops what it has set", []call{sets(3, busies("A", sets(4, b), stops(1, 2), sets(4, c))), advances(5)}, []answer{laid(0, 2), rung(2, "A( 1/2 yes 1/6 ) C ")}},
		{"one is stopped ahead of it, and it sets another in its place", []call{sets(3, busies("A", stops(1, 2), sets(3, b), stops(1, 2))), sets(4, c), advances(5)}, []answer{laid(0, 2), laid(1, 2), rung(2, "A( yes 1/6 no ) B ")}},
		{"it advances", []call{sets(3, busies("A", advances(1), advances(0), advances(-1), looks)), advances(5), looks, advances(1), looks}, []answer{laid(0, 2), rung(1, "A( error 14 error 14 error 1 5 ) "), at(5), rung(0, ""), at(6)}},
		{"it asks wrongly", []call{sets(3, busies("A", sets(-1, b), sets(1, nil), stops(16, 2), stops(0, 3))), advances(5)}, []answer{laid(0, 2), rung(1, "A( error 1 error 1 no no ) ")}},
		{"it finds no slot", append(fills(15, 9), sets(3, busies("A", sets(0, b))), advances(5)), append(laids(16), rung(1, "A( error 12 ) "))},
		{"it panics", []call{sets(3, fallen("A", looks)), sets(3, b), advances(5), advances(1), looks, stops(0, 2), stops(1, 2), sets(1, c)}, []answer{laid(0, 2), laid(1, 2), falls("A", "A( 5 ) "), busy, at(5), no, yes, laid(1, 6)}},
		{"another has rung ahead of that", []call{sets(3, fallen("A")), sets(2, b), sets(4, c), advances(5), stops(1, 2), stops(2, 2)}, []answer{laid(0, 2), laid(1, 2), laid(2, 2), falls("A", "B A "), no, yes}},
		{"it advances, and panics", []call{sets(3, fallen("A", advances(1), sets(0, b))), advances(5), looks, stops(1, 2)}, []answer{laid(0, 2), falls("A", "A( error 14 1/2 ) "), at(5), yes}},
	} {
		if got := makes(newClock(), th, row.calls...); !slices.Equal(got, row.want) {
			t.Errorf("P10.4: %s, by %s: %v:\n got %v\nwant %v", row.what, who, row.calls, got, row.want)
		}
	}
}

// laids: so many slots that are set for the first time.
func laids(n int) (l []answer) {
	for i := range n {
		l = append(l, laid(i, 2))
	}
	return l
}

// TestWhatComesOut: a function's own panic, with the same value, by a thread and free; then the clock is busy for good.
func TestWhatComesOut(t *testing.T) {
	for what, x := range map[string]any{"number": 3, "text": "x", "error": errors.New("e"), "pointer": new(int), "false": false, "errno": api.ErrBusy, "array": [2]int{1, 2}} {
		comesOut(t, what, func(*gate.Thread) { panic(x) }, func(out any) bool { return out == x })
	}
	list := []int{1, 2}
	comesOut(t, "what cannot be compared", func(*gate.Thread) { panic(list) }, func(out any) bool { return &out.([]int)[0] == &list[0] })
	comesOut(t, "nil", func(*gate.Thread) { panic(nil) }, func(out any) bool {
		var none *runtime.PanicNilError
		return errors.As(out.(error), &none)
	})
	comesOut(t, "an index", func(*gate.Thread) { _ = list[len(list)] }, func(out any) bool {
		var at runtime.Error
		return errors.As(out.(error), &at)
	})
	_, own := aid.Stopped()
	comesOut(t, "the gate's own, of another thread", func(*gate.Thread) { panic(own) }, gate.Is)
	comesOut(t, "another one ahead of it", func(*gate.Thread) {
		defer panic("x")
		panic("y")
	}, func(out any) bool { return out == "x" })
}

func comesOut(t *testing.T, what string, f func(t *gate.Thread), fits func(out any) bool) {
	t.Helper()
	falls := func(who string, th *gate.Thread) {
		p := newClock()
		rang := 0
		p.Set(th, 2, func(*gate.Thread) { rang++ })
		p.Set(th, 4, f)
		p.Set(th, 5, func(*gate.Thread) { t.Errorf("P10.4: %s, by %s: one rings behind that", what, who) })
		out := aid.Caught(func() { p.Advance(th, 7) })
		behind := makes(p, th, looks, advances(1), advances(-1), stops(0, 2), stops(1, 2), stops(2, 2), sets(1, quiet("A")), sets(1, quiet("A")), sets(1, quiet("A")))
		if !fits(out) || rang != 1 || !slices.Equal(behind, []answer{at(7), busy, wrong, no, no, yes, laid(0, 6), laid(2, 6), laid(3, 2)}) {
			t.Errorf("P10.4: %s, by %s: %v comes out; then %v", what, who, out, behind)
		}
	}
	for who, th := range aid.NotLiving() {
		falls(who, th)
	}
	r := gate.Run(nil, api.MaxTurns, func(th *gate.Thread) { falls("one that lives", th) })
	if r.End != api.Over || len(r.Fell) != 0 {
		t.Errorf("P10.4: %s: %+v", what, r)
	}
	c := clock.New()
	c.Set(nil, 0, f)
	r = gate.Run(nil, api.MaxTurns, func(th *gate.Thread) { c.Advance(th, 0) })
	if r.End != api.Over || !slices.Equal(r.Fell, []int{0}) || len(r.Log) != 21 {
		t.Errorf("P10.4: %s: not recovered: %+v", what, r)
	}
}

// TestExits: a function that ends its goroutine does not come back, either.
func TestExits(t *testing.T) {
	p := newClock()
	p.Set(nil, 0, func(*gate.Thread) { runtime.Goexit() })
	aid.Beside(1, func(int) {
		p.Advance(nil, 3)
		t.Error("P10.4: it comes back")
	})
	if got := makes(p, nil, looks, advances(0), stops(0, 2), sets(1, quiet("A"))); !slices.Equal(got, []answer{at(3), busy, no, laid(1, 2)}) {
		t.Errorf("P10.4: %v", got)
	}
}

// TestStoppedInItsMidst: a function whose thread is stopped, whatever it does about that: nothing behind it is done.
func TestStoppedInItsMidst(t *testing.T) {
	x := cell.New(0)
	adds := func(t *gate.Thread) { x.Add(t, 1) }
	recovers := func(t *gate.Thread) { _ = aid.Caught(func() { adds(t) }) }
	for what, row := range map[string]struct {
		f    func(t *gate.Thread)
		fits func(out any) bool
	}{
		"goes on":                        {adds, gate.Is},
		"recovers, and comes back":       {recovers, gate.Is},
		"recovers, and accesses more":    {func(t *gate.Thread) { recovers(t); adds(t) }, gate.Is},
		"recovers, and panics":           {func(t *gate.Thread) { recovers(t); panic("x") }, func(out any) bool { return out == "x" }},
		"defers an access":               {func(t *gate.Thread) { defer adds(t); adds(t) }, gate.Is},
		"panics, and accesses meanwhile": {func(t *gate.Thread) { defer adds(t); panic("x") }, gate.Is},
	} {
		p := newClock()
		p.Set(nil, 1, row.f)
		p.Set(nil, 2, func(*gate.Thread) { t.Errorf("P10.4: %s: another one rings", what) })
		var out any
		r := gate.Run(nil, 22, func(t *gate.Thread) { out = aid.Caught(func() { p.Advance(t, 3) }) })
		if !row.fits(out) || r.End != api.Cut || len(r.Log) != 22 || aid.Texts(r.Left) != "0 add c-1 1: 0" {
			t.Errorf("P10.4: %s: %v comes out: %+v", what, out, r)
		}
		if got := makes(p, nil, looks, advances(0), stops(0, 2), stops(1, 2), sets(1, quiet("A")), sets(1, quiet("A"))); !slices.Equal(got, []answer{at(3), busy, no, yes, laid(1, 6), laid(2, 2)}) || x.Load(nil) != 0 {
			t.Errorf("P10.4: %s: then %v", what, got)
		}
	}
}

// TestItIsHandedTheThread: just the one that Advance was handed, and its accesses are that thread's.
func TestItIsHandedTheThread(t *testing.T) {
	for what, th := range aid.NotLiving() {
		c := clock.New()
		c.Set(nil, 0, func(u *gate.Thread) {
			if u != th {
				t.Errorf("P10.4: %s: it is handed another", what)
			}
		})
		if n, e := c.Advance(th, 0); n != 1 || e != api.OK {
			t.Errorf("P10.4: %s: %d, %d", what, n, e)
		}
	}
	c, x := clock.New(), cell.New(0)
	var set *gate.Thread
	r := gate.Run([]int{0, 0, 0, 0}, api.MaxTurns, func(th *gate.Thread) {
		set = th
		c.Set(th, 0, func(u *gate.Thread) {
			if u == set || u.Number() != 1 {
				t.Errorf("P10.4: it is handed another")
			}
			x.Add(u, 1)
			u.Mark(11, 12)
		})
	}, func(th *gate.Thread) { c.Advance(th, 0) })
	at := slices.IndexFunc(r.Log, func(a api.Access) bool { return a.Op == api.OpAdd })
	if at < 0 || r.Log[at].Thread != 1 || r.Log[at+1] != (api.Access{Thread: 1, Op: api.OpMark, Cell: -1, Arg: 11, New: 12}) || r.End != api.Over {
		t.Errorf("P10.4: %+v", r)
	}
}

// TestItBeginsThreads: a function may begin a thread, which finds the clock busy as long as the Advance goes on.
func TestItBeginsThreads(t *testing.T) {
	p := newClock()
	var got []answer
	p.Set(nil, 0, func(t *gate.Thread) {
		t.Go(func(t *gate.Thread) { got = makes(p, t, advances(1), looks, sets(0, quiet("B"))) })
	})
	var a answer
	r := gate.Run(aid.Goes([2]int{0, 22}, [2]int{1, 7}), api.MaxTurns, func(t *gate.Thread) { a = do(p, t, advances(2)) })
	if a != rung(2, "B ") || !slices.Equal(got, []answer{busy, at(2), laid(1, 2)}) || r.End != api.Over {
		t.Errorf("P10.4: %v, %v: %+v", a, got, r)
	}
}

// TestNothingIsKept: a function that is not to ring any more is not kept by the clock; but of a timer that was stopped till its slot is used again.
func TestNothingIsKept(t *testing.T) {
	nothing := func(*gate.Thread) {}
	for what, row := range map[string]struct {
		first int // so many timers that are set ahead of it
		due   int64
		turns int
		falls bool
		then  func(c *clock.Clock)
		kept  bool
	}{
		"set":                          {0, 3, 99, false, func(c *clock.Clock) { c.Advance(nil, 2) }, true},
		"set, though it is busy":       {0, 3, 99, false, func(c *clock.Clock) { gate.Run(nil, 1, func(t *gate.Thread) { c.Advance(t, 5) }) }, true},
		"rang":                         {0, 3, 99, false, func(c *clock.Clock) { c.Advance(nil, 3) }, false},
		"fell":                         {0, 3, 99, true, func(c *clock.Clock) { aid.Caught(func() { c.Advance(nil, 3) }) }, false},
		"stopped as it had rung":       {0, 3, 99, false, func(c *clock.Clock) { gate.Run(nil, 21, func(t *gate.Thread) { c.Advance(t, 3) }) }, false},
		"stopped, and the slot used":   {0, 3, 99, false, func(c *clock.Clock) { c.Stop(nil, timer(0, 2)); c.Set(nil, 3, nothing) }, false},
		"refused, by its due":          {0, -1, 99, false, func(*clock.Clock) {}, false},
		"refused, as no slot is free":  {16, 3, 99, false, func(*clock.Clock) {}, false},
		"stopped ahead of claiming":    {0, 3, 1, false, func(*clock.Clock) {}, false},
		"stopped when it has claimed":  {0, 3, 2, false, func(*clock.Clock) {}, false},
		"stopped when its due is laid": {0, 3, 3, false, func(*clock.Clock) {}, false},
	} {
		c := clock.New()
		for range row.first {
			c.Set(nil, 3, nothing)
		}
		v := held(c, row.due, row.turns, row.falls)
		row.then(c)
		for range 9 {
			runtime.GC()
		}
		if kept := v.Value() != nil; kept != row.kept {
			t.Errorf("P10.2 to P10.4: %s: the function is kept: %v", what, kept)
		}
		runtime.KeepAlive(c)
	}
}

// value: one that holds memory.
type value [100]int

// held: what the function of a timer holds, that a thread sets; nobody else keeps it.
func held(c *clock.Clock, due int64, turns int, falls bool) weak.Pointer[value] {
	v := new(value)
	gate.Run(nil, turns, func(t *gate.Thread) {
		c.Set(t, due, func(*gate.Thread) {
			if v[0]++; falls {
				panic("x")
			}
		})
	})
	return weak.Make(v)
}
