package future_test

import (
	"errors"
	"io"
	"math"
	"runtime"
	"testing"

	"treadle/aid"
	"treadle/api"
	"treadle/fault"
	"treadle/future"
	"treadle/gate"
)

// mapped calls f with what a Map of such a function comes to, of a future that comes to v: handed in ahead of the filling, and behind it.
func mapped(t *testing.T, th *gate.Thread, v int64, of func(v int64) (int64, error), f func(when string, g *future.Future)) {
	t.Helper()
	var x *future.Future
	makes := func(when string) *future.Future {
		called := 0
		g, e := x.Map(th, func(w int64) (int64, error) {
			if called++; w != v || called > 1 {
				t.Errorf("P14.7: %s: its function is called with %d, not %d; %d times", when, w, v, called)
			}
			return of(w)
		})
		if g == nil || e != api.OK {
			t.Fatalf("P14.7: %s: %d", when, e)
		}
		if _, _, done := g.Peek(th); done != (called == 1) {
			t.Errorf("P14.7: %s: it is filled: %v, but %d are called", when, done, called)
		}
		return g
	}
	x = future.New()
	early := makes("ahead")
	out := aid.Caught(func() { x.Complete(th, v, nil) })
	late := makes("behind")
	if out != nil || early == late || early == x || late == x {
		t.Errorf("P14.7: %v comes out, or two are one", out)
	}
	f("ahead", early)
	f("behind", late)
}

// TestMapAnswers: what the function answers is what the Map's future comes to: a value, or an error, with 0.
func TestMapAnswers(t *testing.T) {
	by(t, func(who string, th *gate.Thread) {
		for _, v := range aid.Values() {
			mapped(t, th, v, func(v int64) (int64, error) { return -v, nil }, func(when string, g *future.Future) {
				if a := aid.Told(g.Await(th)); a != aid.Told(-v, nil) {
					t.Errorf("P14.7: %s, by %s: %d: %v", when, who, v, a)
				}
			})
		}
		for i, e := range aid.Errors() {
			for _, v := range []int64{0, 5, math.MinInt64} {
				mapped(t, th, 8, func(int64) (int64, error) { return v, e }, func(when string, g *future.Future) {
					if a := aid.Told(g.Await(th)); a != aid.Told(0, e) {
						t.Errorf("P14.7: %s, by %s: the error number %d beside %d: %v", when, who, i, v, a)
					}
				})
			}
		}
	})
}

// TestMapPanics: what the function panics with is carried to each who awaits, and comes out of nothing.
func TestMapPanics(t *testing.T) {
	by(t, func(who string, th *gate.Thread) {
		for what, row := range aid.Falls() {
			mapped(t, th, 8, func(int64) (int64, error) { row.Do(); return 5, io.EOF }, func(when string, g *future.Future) {
				_, first := g.Await(th)
				var called error
				g.Then(th, func(_ *gate.Thread, _ int64, e error) { called = e })
				v, e, done := g.Peek(th)
				p, is := e.(*fault.Panicked)
				if v != 0 || !is || !done || e != first || e != called || row.With != nil && p.Value != row.With || p.Value == nil {
					t.Fatalf("P14.7: %s, %s, by %s: %d %#v", what, when, who, v, e)
				}
				within, _ := row.With.(error)
				if fault.Class(e) != api.ErrPanic || errors.Is(e, io.EOF) || errors.Is(e, within) {
					t.Errorf("P14.7: %s, %s, by %s: found is %d", what, when, who, fault.Class(e))
				}
			})
		}
		mapped(t, th, 8, func(v int64) (w int64, e error) {
			defer func() { _ = recover(); w, e = v+1, nil }()
			panic("x")
		}, func(when string, g *future.Future) {
			if a := aid.Told(g.Await(th)); a != aid.Told(9, nil) {
				t.Errorf("P14.7: what it recovers itself, %s, by %s: %v", when, who, a)
			}
		})
	})
}

// TestGatesOwn: kept from another run, the gate's own panic goes on out of the call in which the function is called, and nobody fills the Map's future.
func TestGatesOwn(t *testing.T) {
	_, own := aid.Stopped()
	for what, f := range map[string]change{
		"panics with it": func(int64) (int64, error) { panic(own) },
		"behind another": func(int64) (int64, error) { defer panic(own); panic("x") },
		"behind answers": func(int64) (int64, error) { defer panic(own); return 5, io.EOF },
	} {
		by(t, func(who string, th *gate.Thread) {
			x, called := future.New(), 0
			g, _ := x.Map(th, f)
			x.Then(th, func(*gate.Thread, int64, error) { called++ })
			out := aid.Caught(func() { x.Complete(th, 5, nil) })
			if _, _, done := g.Peek(th); out != own || done || called != 0 || !g.Complete(th, 6, nil) {
				t.Errorf("P14.7: one that %s, by %s: %v comes out; it is filled: %v; %d are called", what, who, out, done, called)
			}
			if out := aid.Caught(func() { x.Map(th, f) }); out != own {
				t.Errorf("P14.7: one that %s, behind the filling, by %s: %v comes out", what, who, out)
			}
			y := future.New()
			g, _ = y.Map(th, f)
			if y.Complete(th, 5, io.EOF); aid.Told(g.Await(th)).E != io.EOF {
				t.Errorf("P14.7: one that %s, by %s, is called in vain", what, who)
			}
		})
	}
	mapped(t, nil, 8, func(int64) (int64, error) { return 0, fault.Of(own) }, func(when string, g *future.Future) {
		if _, e := g.Await(nil); fault.Class(e) != api.ErrPanic {
			t.Errorf("P14.7: one that answers what has it within, %s: %v", when, e)
		}
	})
}

// TestMapIsAFutureOfItsOwn: whoever completes it first is told so; its functions are called by him.
func TestMapIsAFutureOfItsOwn(t *testing.T) {
	by(t, func(who string, th *gate.Thread) {
		x := future.New()
		g, _ := x.Map(th, func(v int64) (int64, error) { return v + 1, nil })
		h, _ := x.Map(th, func(v int64) (int64, error) { return v + 2, nil })
		p := g.Claim(th)
		if p == nil || !x.Complete(th, 5, nil) || h.Complete(th, 9, nil) {
			t.Errorf("P14.7: by %s", who)
		}
		if _, _, done := g.Peek(th); done || !p.Fill(th, 1, io.EOF) {
			t.Errorf("P14.7: by %s: it is filled: %v", who, done)
		}
		if a, b, c := aid.Told(x.Await(th)), aid.Told(g.Await(th)), aid.Told(h.Await(th)); a.String()+b.String()+c.String() != "5EOF7" {
			t.Errorf("P14.7: by %s: %v %v %v", who, a, b, c)
		}
	})
}

// TestNested: Maps of Maps, and futures that fill one another, to the document's bound.
func TestNested(t *testing.T) {
	const parts = 1 << 16
	for want, end := range map[string]change{"3": func(int64) (int64, error) { return 3, nil }, "EOF": func(int64) (int64, error) { return 3, io.EOF }, "panicked:x": func(int64) (int64, error) { panic("x") }} {
		all := []*future.Future{future.New()}
		for i := range parts {
			f := func(v int64) (int64, error) { return v + 1, nil }
			if i == parts/2 {
				f = end
			}
			g, _ := all[i].Map(nil, f)
			all = append(all, g)
		}
		all[0].Complete(nil, 0, nil)
		for i, x := range all {
			a := aid.Told(x.Await(nil))
			is := a.String() == want
			if i <= parts/2 {
				is = a == aid.Told(int64(i), nil)
			} else if want == "3" {
				is = a == aid.Told(int64(3+i-parts/2-1), nil)
			}
			if !is {
				t.Fatalf("P14.7: %s: the future %d: %v", want, i, a)
			}
		}
	}
	all, told := make([]*future.Future, parts), 0
	for i := range all {
		all[i] = future.New()
		all[i].Then(nil, func(u *gate.Thread, v int64, e error) {
			if i < parts-1 {
				all[i+1].Complete(u, v+1, e)
			}
			if told++; i == parts/2 {
				panic("x")
			}
		})
	}
	out := aid.Caught(func() { all[0].Complete(nil, 7, io.EOF) })
	if a := aid.Told(all[parts-1].Await(nil)); out != "x" || a != aid.Told(0, io.EOF) || told != parts/2 {
		t.Errorf("R1: %v comes out; the last one comes to %v; %d go on", out, a, told)
	}
}

// TestNestedStopped: where the thread is stopped in the midst of Maps in one another, the gate's own panic goes through all of them, and the rest stays as it was; to the document's bound, too.
func TestNestedStopped(t *testing.T) {
	for turns := range 6*16 + 1 {
		nestedStopped(t, 16, turns)
	}
	nestedStopped(t, 1<<15, api.MaxTurns)
}

// nestedStopped: of so many futures, each filled by the function of the Map of the one ahead of it, behind so many turns.
func nestedStopped(t *testing.T, parts, turns int) {
	t.Helper()
	var thread *gate.Thread
	all, maps := make([]*future.Future, parts), make([]*future.Future, parts)
	for i := range all {
		all[i] = future.New()
	}
	for i := range all {
		maps[i], _ = all[i].Map(nil, func(v int64) (int64, error) {
			if i < parts-1 {
				all[i+1].Complete(thread, v, nil)
			}
			return v, nil
		})
	}
	var out any
	r := gate.Run(nil, turns, func(t *gate.Thread) {
		thread = t
		out = aid.Caught(func() { all[0].Complete(t, 5, nil) })
	})
	if gate.Is(out) != (turns < 6*parts) || r.Turns != turns {
		t.Errorf("P14.7: %d turns: %v comes out: end %d", turns, out, r.End)
	}
	filled, mapped := 0, 0
	for i := range all {
		_, _, done := all[i].Peek(nil)
		_, _, also := maps[i].Peek(nil)
		filled, mapped = filled+aid.Digit(done), mapped+aid.Digit(also)
	}
	if want := min(parts, (turns+1)/3); filled != want || mapped != (max(turns, 3*parts)-3*parts+1)/3 {
		t.Errorf("P14.2, P14.7: %d turns: %d are filled, not %d; of the Maps' %d", turns, filled, want, mapped)
	}
}

// TestErrorsOfMapsAreNotWrapped: an error goes through Maps of Maps as it is, and calls nothing.
func TestErrorsOfMapsAreNotWrapped(t *testing.T) {
	x := future.New()
	var all []*future.Future
	for g := x; len(all) < 9; {
		g, _ = g.Map(nil, func(int64) (int64, error) { runtime.Goexit(); return 0, nil })
		all = append(all, g)
	}
	e := fault.Wrap(4, &fault.Late{Due: 2})
	x.Complete(nil, 3, e)
	for i, g := range all {
		if a := aid.Told(g.Await(nil)); a != aid.Told(0, e) {
			t.Errorf("P14.7: the Map %d: %v", i, a)
		}
	}
}
