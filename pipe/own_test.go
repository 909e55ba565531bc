package pipe_test

import (
	"math"
	"runtime"
	"slices"
	"testing"
	"weak"

	"treadle/aid"
	"treadle/api"
	"treadle/cell"
	"treadle/gate"
	"treadle/pipe"
)

// What is whose: a call's, a pipe's, a bell's.

// TestNotLiving: a call that is handed a thread that does not live makes no access of the thread in whose goroutine it is.
func TestNotLiving(t *testing.T) {
	calls := []call{asks, tries(5), sends(6), tries(7), recvs, asks, asks, sends(8), closes, closes, recvs, recvs, sends(9)}
	want := []answer{notYet, okay, okay, notYet, got(5), got(6), notYet, okay, okay, shutNow, got(8), shutNow, shutNow}
	for what, th := range aid.NotLiving() {
		p := newPipe(2, nil)
		var l []answer
		r := gate.Run(nil, 9, func(*gate.Thread) { l = allOf(p, th, calls...) })
		if !slices.Equal(l, want) || len(r.Log) != 0 || r.End != api.Over || p.Bell().Load(nil) != rung(want) {
			t.Errorf("P20.2 to P20.5: %s: %v, %+v", what, l, r)
		}
	}
}

// TestBells: a pipe without a bell has one of its own; else it is the one that it was handed, to which nobody else does anything.
func TestBells(t *testing.T) {
	p, q := newPipe(2, nil), newPipe(2, nil)
	if p.Bell() == nil || p.Bell() == q.Bell() || p.Bell() != p.Bell() {
		t.Error("P20.1: bells of their own")
	}
	for _, rung := range []int64{0, 5, -3, math.MaxInt64, math.MinInt64} {
		bell := cell.New(rung)
		p, q := newPipe(2, bell), newPipe(4, bell)
		if p.Bell() != bell || q.Bell() != bell || bell.Load(nil) != rung {
			t.Errorf("P20.1: a bell of %d", rung)
		}
		for i, row := range []struct {
			of   *pipe.Pipe
			c    call
			want answer
			more int64
		}{{p, tries(1), okay, 1}, {q, tries(2), okay, 2}, {q, asks, got(2), 3}, {q, asks, notYet, 3}, {p, recvs, got(1), 4}, {p, closes, okay, 5}, {p, closes, shutNow, 5}, {q, sends(3), okay, 6}, {p, recvs, shutNow, 6}, {q, closes, okay, 7}, {q, tries(4), shutNow, 7}, {q, recvs, got(3), 8}} {
			if a := asked(row.of, nil, row.c); a != row.want || bell.Load(nil) != rung+row.more {
				t.Errorf("P20.2 to P20.5: %d: %v: %v, the bell %d", i, row.c, a, bell.Load(nil))
			}
		}
	}
}

// TestBellMakesNoAccess: nor does New, nor does either change the bell.
func TestBellMakesNoAccess(t *testing.T) {
	bell := cell.New(3)
	r := gate.Run(nil, 9, func(th *gate.Thread) {
		p := newPipe(2, bell)
		th.Mark(int64(aid.Digit(p.Bell() == bell)), 10)
		bell.Load(th)
	})
	if s := aid.Texts(r.Log); s != "0 mark 1 10; 0 load c0: 3" {
		t.Errorf("P20.1: %s", s)
	}
}

// TestUnmadeBell: a bell that its package did not make is kept, too.
func TestUnmadeBell(t *testing.T) {
	for _, bell := range []*cell.Cell{{}, new(cell.Cell)} {
		if p, e := pipe.New(2, bell); p == nil || e != api.OK || p.Bell() != bell {
			t.Errorf("P20.1: %v, %d", p, e)
		}
		if p, e := pipe.New(3, bell); p != nil || e != api.ErrArg {
			t.Errorf("P20.1: %v, %d", p, e)
		}
	}
}

// TestEachIsItsOwn: what is done to one pipe is not seen in others, but at the bell.
func TestEachIsItsOwn(t *testing.T) {
	bell := cell.New(0)
	x, y := newPipe(4, bell), newPipe(4, bell)
	allOf(x, nil, tries(1), tries(2), tries(3), asks, closes)
	for what, z := range map[string]*pipe.Pipe{"made ahead": y, "made behind": newPipe(4, bell)} {
		var l []answer
		r := gate.Run(nil, 99, func(t *gate.Thread) { l = allOf(z, t, asks, tries(9), asks) })
		if !slices.Equal(l, []answer{notYet, okay, got(9)}) || r.Log[0].Was != 0 || r.Log[1].Was != 0 || r.Log[2].Was != 0 {
			t.Errorf("P20.1: %s: %v: %s", what, l, aid.Texts(r.Log))
		}
	}
	if l := allOf(x, nil, asks, asks, asks, tries(4)); !slices.Equal(l, []answer{got(2), got(3), shutNow, shutNow}) {
		t.Errorf("P20.1: %v", l)
	}
}

// isKept: whether it is.
func isKept[T any](p weak.Pointer[T]) bool {
	for range 9 {
		runtime.GC()
	}
	return p.Value() != nil
}

// TestWhatIsKept: the bell, and nothing of those who called.
func TestWhatIsKept(t *testing.T) {
	var thread weak.Pointer[gate.Thread]
	bell := cell.New(0)
	kept := weak.Make(bell)
	p := newPipe(2, bell)
	bell = nil
	gate.Run(nil, 99, func(t *gate.Thread) {
		thread = weak.Make(t)
		allOf(p, t, tries(1), sends(2), tries(3), asks, recvs, recvs)
	})
	if isKept(thread) || !isKept(kept) {
		t.Errorf("what is kept: a thread %v, the bell %v", isKept(thread), isKept(kept))
	}
	if p.Bell().Load(nil) != 4 {
		t.Errorf("P20.1: the bell %d", p.Bell().Load(nil))
	}
	if runtime.KeepAlive(p); isKept(kept) {
		t.Error("what is kept: the bell, by nobody")
	}
}
