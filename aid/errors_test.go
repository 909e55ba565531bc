package aid_test

import (
	"sync/atomic"
	"testing"

	"treadle/aid"
	"treadle/api"
	"treadle/fault"
	"treadle/gate"
)

// TestErrors: each of them is none of the others, and none is nil.
func TestErrors(t *testing.T) {
	l := aid.Errors()
	for i, e := range l {
		for j, other := range l {
			if e == nil || (e == other) != (i == j) {
				t.Errorf("%d, %d: %#v", i, j, e)
			}
		}
	}
	if s := (&aid.Own{Name: "a"}).Error(); s != "a" {
		t.Error(s)
	}
	var e error = aid.Awkward{api.ErrArg}
	if aid.Caught(func() { _ = e.Error() }) == nil || aid.Caught(func() { _ = e == e }) == nil {
		t.Error("it is not awkward")
	}
}

// TestFalls: each of them panics, with what it says, each time.
func TestFalls(t *testing.T) {
	l := aid.Falls()
	for what, f := range l {
		for range 2 {
			if x := aid.Caught(f.Do); x == nil || f.With != nil && x != f.With {
				t.Errorf("%s: %v", what, x)
			}
		}
	}
	if e, is := l["cancelled"].With.(error); !is || fault.Class(e) != api.ErrCancelled {
		t.Errorf("%v", l["cancelled"].With)
	}
}

// TestMidsts: each of them stands at one access, and is stopped there; it comes to its end where it may go on.
func TestMidsts(t *testing.T) {
	var x atomic.Int64
	add := func(t *gate.Thread) { t.Step(&x, api.OpAdd, 1, 0) }
	for what, f := range aid.Midsts(add) {
		at := x.Load()
		if r := gate.Run(nil, 0, f); len(r.Left) != 1 || x.Load() != at || (r.Left[0].Op == api.OpAdd) != (what != "begins a thread") {
			t.Errorf("%s: %+v", what, r)
		}
		if r := gate.Run(nil, 9, f); r.End != api.Over || r.Turns == 0 {
			t.Errorf("%s: it goes on: %+v", what, r)
		}
	}
}
