package once_test

import (
	"errors"
	"runtime"
	"sync"
	"sync/atomic"
	"testing"

	"treadle/aid"
	"treadle/api"
	"treadle/cell"
	"treadle/gate"
	"treadle/once"
)

// TestLazyExamples: those below the chapter's table.
func TestLazyExamples(t *testing.T) {
	built := 0
	l := once.NewLazy(func() int { built++; return 7 })
	if built != 0 {
		t.Errorf("P3.3: it is built ahead of a Get")
	}
	for range 3 {
		if v, e := l.Get(); v != 7 || e != api.OK || built != 1 {
			t.Errorf("P3.3: %d, %d, built %d times", v, e, built)
		}
	}
	built = 0
	l = once.NewLazy(func() int { built++; panic("x") })
	for range 3 {
		if v, e := l.Get(); v != 0 || e != api.ErrFell || built != 1 {
			t.Errorf("P3.3: of a panic: %d, %d, built %d times", v, e, built)
		}
	}
	none := once.NewLazy[int](nil)
	if v, e := none.Get(); none != nil || v != 0 || e != api.ErrNil {
		t.Errorf("P3.3: of nil: %v, %d, %d", none, v, e)
	}
}

// row: a value of several parts.
type row struct {
	a int
	b string
}

// TestLazyTypes: of whatever type, zero values too; what was returned, itself.
func TestLazyTypes(t *testing.T) {
	p := &row{1, "x"}
	isTold(t, p)
	isTold(t, *p)
	isTold(t, row{})
	isTold(t, (*row)(nil))
	isTold(t, "")
	isTold(t, 2.5)
	isTold(t, [3]bool{false, true})
	isTold[any](t, nil)
	isTold[any](t, 3)
	isTold[error](t, api.ErrFell)
	isTold[error](t, nil)
	list := []int{1, 2}
	l := once.NewLazy(func() []int { return list })
	for range 2 {
		if v, e := l.Get(); e != api.OK || len(v) != 2 || &v[0] != &list[0] {
			t.Errorf("P3.3: %v, %d", v, e)
		}
	}
	f := once.NewLazy(func() func() int { return func() int { return 4 } })
	if v, e := f.Get(); e != api.OK || v() != 4 {
		t.Errorf("P3.3: a function: %d", e)
	}
}

func isTold[T comparable](t *testing.T, want T) {
	t.Helper()
	built := 0
	l := once.NewLazy(func() T { built++; return want })
	for range 2 {
		if v, e := l.Get(); v != want || e != api.OK || built != 1 {
			t.Errorf("P3.3: %v, %d, want %v, built %d times", v, e, want, built)
		}
	}
}

// TestLazyNone: nil, and what NewLazy did not make.
func TestLazyNone(t *testing.T) {
	var null *once.Lazy[string]
	for what, l := range map[string]*once.Lazy[string]{"nil": null, "made by no call": {}, "made by new": new(once.Lazy[string]), "of nil": once.NewLazy[string](nil)} {
		for range 2 {
			if v, e := l.Get(); v != "" || e != api.ErrNil {
				t.Errorf("P3.3: %s: %q, %d", what, v, e)
			}
		}
	}
}

// TestLazyFalls: whatever the build panics with, also behind having laid something.
func TestLazyFalls(t *testing.T) {
	var none map[string]int
	for what, f := range map[string]func() row{
		"a text":           func() row { panic("x") },
		"nil":              func() row { panic(nil) },
		"an error":         func() row { panic(errors.New("e")) },
		"what is no equal": func() row { panic([]int{1}) },
		"an errno":         func() row { panic(api.OK) },
		"the runtime":      func() row { none["x"] = 1; return row{} },
		"a named result":   func() (r row) { r = row{1, "x"}; panic("x") },
		"a deferred panic": func() row { defer panic("x"); return row{1, "x"} },
	} {
		l := once.NewLazy(f)
		for range 3 {
			var v row
			var e api.Errno
			if x := aid.Caught(func() { v, e = l.Get() }); x != nil || v != (row{}) || e != api.ErrFell {
				t.Errorf("P3.3: %s: %v, %d, %v comes out", what, v, e, x)
			}
		}
	}
}

// TestLazyRecovers: a build that recovers a panic of its own has returned.
func TestLazyRecovers(t *testing.T) {
	l := once.NewLazy(func() int { return len(aid.Caught(func() { panic("abc") }).(string)) })
	if v, e := l.Get(); v != 3 || e != api.OK {
		t.Errorf("P3.3: %d, %d", v, e)
	}
}

// TestLazyHands: of many goroutines one builds, in its own goroutine; all others wait for its end, and all are told the same.
func TestLazyHands(t *testing.T) {
	for what, row := range map[string]struct {
		end  func()
		v    int
		e    api.Errno
		told int64
	}{
		"returns": {func() {}, 7, api.OK, 9},
		"panics":  {func() { panic("x") }, 0, api.ErrFell, 9},
		"exits":   {func() { runtime.Goexit() }, 0, api.ErrFell, 8}, // it ends the goroutine of the one that builds, who is told nothing
	} {
		var built, told atomic.Int64
		var all sync.WaitGroup
		begun, goes := make(chan int), make(chan int)
		l := once.NewLazy(func() int {
			built.Add(1)
			<-goes
			row.end()
			return 7
		})
		for range 9 {
			all.Go(func() {
				begun <- 1
				v, e := l.Get()
				if told.Add(1); v != row.v || e != row.e {
					t.Errorf("P3.3: %s: %d, %d", what, v, e)
				}
			})
		}
		for range 9 {
			<-begun
		}
		for range 1000 {
			runtime.Gosched()
		}
		if told.Load() != 0 || built.Load() > 1 {
			t.Errorf("P3.3: %s: %d are told ahead of the end, built %d times", what, told.Load(), built.Load())
		}
		close(goes)
		all.Wait()
		if told.Load() != row.told || built.Load() != 1 {
			t.Errorf("P3.3: %s: %d are told, built %d times", what, told.Load(), built.Load())
		}
		if v, e := l.Get(); v != row.v || e != row.e {
			t.Errorf("P3.3: %s: later: %d, %d", what, v, e)
		}
	}
}

// TestLazyMeets: many hands at once: one build, whose plain memory all see.
func TestLazyMeets(t *testing.T) {
	for range 3000 {
		plain := 0
		l := once.NewLazy(func() *int { plain++; return &plain })
		aid.Beside(8, func(int) {
			if v, e := l.Get(); v != &plain || *v != 1 || e != api.OK {
				t.Errorf("P3.3: %d, %d", *v, e)
			}
		})
	}
}

// TestLazyGatesOwn: R1: the gate's own panic is handed on; whoever asks later is told that it fell.
func TestLazyGatesOwn(t *testing.T) {
	x := cell.New(0)
	var l *once.Lazy[int64]
	var out any
	r := gate.Run(nil, 0, func(t *gate.Thread) {
		l = once.NewLazy(func() int64 { return x.Add(t, 1) })
		out = aid.Caught(func() { l.Get() })
	})
	if !gate.Is(out) || r.End != api.Cut || len(r.Left) != 1 || x.Load(nil) != 0 {
		t.Errorf("R1: %v comes out: %+v", out, r)
	}
	if v, e := l.Get(); v != 0 || e != api.ErrFell {
		t.Errorf("P3.3: behind it: %d, %d", v, e)
	}
}

// TestLazyInARun: no steps but what the build does itself.
func TestLazyInARun(t *testing.T) {
	x := cell.New(0)
	r := gate.Run(nil, 9, func(th *gate.Thread) {
		l := once.NewLazy(func() int64 { return x.Add(th, 5) })
		for range 2 {
			if v, e := l.Get(); v != 5 || e != api.OK {
				t.Errorf("P3.3: %d, %d", v, e)
			}
		}
	})
	if aid.Texts(r.Log) != "0 add c0 5: 0" {
		t.Errorf("P3.3: %s", aid.Texts(r.Log))
	}
}

// TestLazyWithinAnother: a build may get another Lazy.
func TestLazyWithinAnother(t *testing.T) {
	a := once.NewLazy(func() int { return 3 })
	b := once.NewLazy(func() int { v, _ := a.Get(); return v + 1 })
	c := once.NewLazy(func() int { panic(1) })
	d := once.NewLazy(func() api.Errno { _, e := c.Get(); return e })
	if v, e := b.Get(); v != 4 || e != api.OK {
		t.Errorf("P3.3: %d, %d", v, e)
	}
	if v, e := d.Get(); v != api.ErrFell || e != api.OK {
		t.Errorf("P3.3: %d, %d", v, e)
	}
}
