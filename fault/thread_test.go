package fault_test

import (
	"errors"
	"io"
	"slices"
	"sync/atomic"
	"testing"

	"treadle/aid"
	"treadle/api"
	"treadle/fault"
	"treadle/gate"
)

// adds: one access.
func adds(t *gate.Thread, x *atomic.Int64) { t.Step(x, api.OpAdd, 1, 0) }

// recovers: an access of a thread that goes on where it is stopped.
func recovers(t *gate.Thread, x *atomic.Int64) { _ = aid.Caught(func() { adds(t, x) }) }

// TestStopped: a thread that is stopped in f: the gate's own panic goes on, with that value, and the Catch does not answer, unless f puts another end in its place.
func TestStopped(t *testing.T) {
	for _, row := range []struct {
		what    string
		f       func(t *gate.Thread, x *atomic.Int64) (int64, error)
		answers bool
		v       int64
		carries any
	}{
		{what: "an access", f: func(t *gate.Thread, x *atomic.Int64) (int64, error) { adds(t, x); return 5, nil }},
		{what: "a Go", f: func(t *gate.Thread, x *atomic.Int64) (int64, error) { t.Go(nil); return 5, nil }},
		{what: "an access that is deferred, too", f: func(t *gate.Thread, x *atomic.Int64) (int64, error) { defer adds(t, x); adds(t, x); return 5, nil }},
		{what: "an access behind another panic", f: func(t *gate.Thread, x *atomic.Int64) (int64, error) { defer adds(t, x); panic("x") }},
		{what: "within another", f: func(t *gate.Thread, x *atomic.Int64) (int64, error) {
			return fault.Catch(func() (int64, error) {
				return fault.Catch(func() (int64, error) { adds(t, x); return 5, nil })
			})
		}},
		{what: "recovered, and gone on with", f: func(t *gate.Thread, x *atomic.Int64) (int64, error) {
			defer func() { panic(recover()) }()
			adds(t, x)
			return 5, nil
		}},
		{what: "recovered, and another access", f: func(t *gate.Thread, x *atomic.Int64) (int64, error) { recovers(t, x); adds(t, x); return 5, nil }},
		{what: "recovered", f: func(t *gate.Thread, x *atomic.Int64) (int64, error) { recovers(t, x); return 5, nil }, answers: true, v: 5},
		{what: "recovered, another panic", f: func(t *gate.Thread, x *atomic.Int64) (int64, error) { recovers(t, x); panic("x") }, answers: true, carries: "x"},
		{what: "another panic on top", f: func(t *gate.Thread, x *atomic.Int64) (int64, error) { defer panic("x"); adds(t, x); return 5, nil }, answers: true, carries: "x"},
	} {
		var x atomic.Int64
		var a answer
		answered, out := false, any(nil)
		r := gate.Run(nil, 0, func(t *gate.Thread) {
			out = aid.Caught(func() {
				a = catch(func() (int64, error) { return row.f(t, &x) })
				answered = true
			})
		})
		if r.End != api.Cut || len(r.Left) != 1 || len(r.Log) != 0 || x.Load() != 0 {
			t.Errorf("P12.3: %s: %+v, the cell is %d", row.what, r, x.Load())
		}
		if answered != row.answers || gate.Is(out) == row.answers || a.v != row.v {
			t.Errorf("P12.3: %s: it answers: %v, %v; out comes %v", row.what, answered, a, out)
		}
		if row.carries != nil && carried(t, row.what, a.e) != row.carries || row.carries == nil && a.e != nil {
			t.Errorf("P12.3: %s: %v", row.what, a.e)
		}
	}
}

// TestGatesOwn: kept from another run it goes on just so, wherever f has it from.
func TestGatesOwn(t *testing.T) {
	_, own := aid.Stopped()
	for what, f := range map[string]func() (int64, error){
		"panics with it":        panics(own),
		"behind another":        func() (int64, error) { defer panic(own); panic("x") },
		"within another":        func() (int64, error) { return fault.Catch(panics(own)) },
		"as an error is asked":  func() (int64, error) { return int64(fault.Class(&falls{own})), nil },
		"behind an answer":      func() (int64, error) { defer panic(own); return 5, io.EOF },
		"as what a Catch tells": func() (int64, error) { panic(fault.Of(own).(*fault.Panicked).Value) },
	} {
		answered := false
		try := func() {
			fault.Catch(f)
			answered = true
		}
		if out := aid.Caught(try); out != own || answered {
			t.Errorf("P12.3: free, one that %s: it answers: %v; out comes %v", what, answered, out)
		}
		var out any
		r := gate.Run(nil, 9, func(*gate.Thread) { out = aid.Caught(try) }, func(*gate.Thread) { try() })
		if out != own || answered || r.End != api.Over || !slices.Equal(r.Fell, []int{1}) {
			t.Errorf("P12.3: by a thread, one that %s: it answers: %v; out comes %v; %+v", what, answered, out, r)
		}
	}
	a := catch(func() (int64, error) { _, e := fault.Catch(panics(fault.Of(own))); panic(e) })
	if p, is := carried(t, "carried twice", a.e).(*fault.Panicked); !is || p.Value.(*fault.Panicked).Value != own {
		t.Errorf("P12.3: what but has it within is carried: %v", a)
	}
}

// TestErrorsThatAreStopped: an error from elsewhere may make accesses as it is asked: where its thread is stopped there, the gate's own panic goes on.
func TestErrorsThatAreStopped(t *testing.T) {
	for what, asks := range map[string]func(e error){
		"Error": func(e error) { _ = fault.Wrap(1, e).Error() }, "Class": func(e error) { fault.Class(e) }, "Numbers": func(e error) { fault.Numbers(e) },
		"Error of an At within": func(e error) { _ = fault.Wrap(1, fault.Wrap(2, e)).Error() }, "Class of an At": func(e error) { fault.Class(fault.Wrap(2, e)) }, "Numbers of an At": func(e error) { fault.Numbers(fault.Wrap(2, e)) },
	} {
		var x atomic.Int64
		var out any
		asked := func(t *gate.Thread) { out = aid.Caught(func() { asks(&accesses{t, &x}) }) }
		r := gate.Run(nil, 0, asked)
		if !gate.Is(out) || r.End != api.Cut || len(r.Left) != 1 {
			t.Errorf("R1: %s: out comes %v: %+v", what, out, r)
		}
		r = gate.Run(nil, 99, asked)
		if out != nil || r.End != api.Over || r.Turns < 1 || int64(r.Turns) != x.Load() {
			t.Errorf("R1: %s: out comes %v: %+v", what, out, r)
		}
	}
}

// accesses: an error that makes an access, whatever is asked of it.
type accesses struct {
	t *gate.Thread
	x *atomic.Int64
}

func (a *accesses) Error() string { adds(a.t, a.x); return "accesses" }
func (a *accesses) Unwrap() error { adds(a.t, a.x); return nil }

// TestNoAccess: a Catch makes none of its own: what f does is done turn by turn as without one, by whatever schedule.
func TestNoAccess(t *testing.T) {
	ends := []func() (int64, error){answers(5, nil), answers(5, io.EOF), panics(7)}
	told := func(picks []int, most int, with bool) api.Report {
		var x, y atomic.Int64
		bodies := make([]aid.Body, len(ends))
		for i, end := range ends {
			f := func(t *gate.Thread) (int64, error) {
				defer t.Step(&y, api.OpLoad, 0, 0)
				t.Mark(10, int64(i))
				adds(t, &x)
				return end()
			}
			bodies[i] = func(t *gate.Thread) {
				if with {
					fault.Catch(func() (int64, error) { return f(t) })
				} else if out := aid.Caught(func() { f(t) }); gate.Is(out) {
					panic(out)
				}
				adds(t, &y)
			}
		}
		return gate.Run(picks, most, bodies...)
	}
	runs := aid.Every(9, func(picks []int) []int {
		a, b := told(picks, 9, true), told(picks, 9, false)
		if a.End != api.Over || a.Turns != 9 || !slices.Equal(a.Log, b.Log) || !slices.Equal(a.Went, b.Went) || len(a.Fell) != 0 {
			t.Fatalf("R6: %v: %+v, not %+v", picks, a, b)
		}
		cut := told(picks, 4, true)
		if cut.End != api.Cut || !slices.Equal(cut.Log, a.Log[:len(cut.Log)]) || !slices.Equal(cut.Went, a.Went[:4]) || len(cut.Fell) != 0 {
			t.Fatalf("W7: %v: %+v, not the beginning of %+v", picks, cut, a)
		}
		return a.Ready
	})
	if runs != 1680 {
		t.Errorf("the schedules are no good: %d", runs)
	}
}

// TestDead: a Catch in whose f a thread sleeps for good: when the run is dead the gate's own panic goes on, through one that was in the midst of another panic, too.
func TestDead(t *testing.T) {
	var x atomic.Int64
	var outs []any
	answered := 0
	sleeps := func(t *gate.Thread) (int64, error) { t.Step(&x, api.OpPark, 0, 0); return 5, nil }
	watched := func(f func(t *gate.Thread) (int64, error)) aid.Body {
		return func(t *gate.Thread) {
			outs = append(outs, aid.Caught(func() {
				fault.Catch(func() (int64, error) { return f(t) })
				answered++
			}))
		}
	}
	r := gate.Run(nil, 9, watched(sleeps), watched(func(t *gate.Thread) (int64, error) {
		defer sleeps(t)
		panic("x")
	}), watched(func(t *gate.Thread) (int64, error) { return 5, errors.New("x") }))
	if r.End != api.Dead || len(r.Left) != 2 || answered != 1 || len(outs) != 3 || outs[0] != nil || !gate.Is(outs[1]) || !gate.Is(outs[2]) {
		t.Errorf("P12.3: %d answered; out come %v: %+v", answered, outs, r)
	}
}
