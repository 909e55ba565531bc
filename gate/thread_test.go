package gate_test

import (
	"errors"
	"slices"
	"sync/atomic"
	"testing"

	"treadle/api"
	"treadle/gate"
)

// stopped: what a stopped thread's access panics with.
func stopped() (x any) {
	var v atomic.Int64
	gate.Run(nil, 0, func(t *gate.Thread) {
		defer func() { x = recover() }()
		t.Step(&v, api.OpLoad, 0, 0)
	})
	return x
}

func TestIs(t *testing.T) {
	type none struct{}
	own := stopped()
	if !gate.Is(own) || !gate.Is(stopped()) {
		t.Errorf("P1.3: %v", own)
	}
	var thread *gate.Thread
	for _, x := range []any{nil, 0, "", false, "stopped", struct{}{}, none{}, &own, []any{own}, [1]any{own}, [1]any{[]int{}}, []int{}, map[int]int{}, func() {}, thread, &gate.Thread{}, errors.New("stopped"), api.ErrStopped, error(nil)} {
		if gate.Is(x) {
			t.Errorf("P1.3: %#v", x)
		}
	}
}

// refused: Steps that are no access.
func refused(t *testing.T, th *gate.Thread) {
	t.Helper()
	var v atomic.Int64
	v.Store(3)
	for _, op := range []int8{-128, -1, 0, api.OpGo, api.OpMark, 9, 127} {
		if was, now, ok := th.Step(&v, op, 3, 4); was != 0 || now != 0 || ok {
			t.Errorf("P1.4: op %d: %d, %d, %v", op, was, now, ok)
		}
	}
	for _, op := range []int8{0, api.OpLoad, api.OpStore, api.OpCas, api.OpAdd, api.OpSwap, api.OpPark} {
		if was, now, ok := th.Step(nil, op, 0, 4); was != 0 || now != 0 || ok {
			t.Errorf("P1.4: op %d of nil: %d, %d, %v", op, was, now, ok)
		}
	}
	if v.Load() != 3 {
		t.Errorf("P1.4: the cell holds %d", v.Load())
	}
}

func TestAThreadThatLives(t *testing.T) {
	var x atomic.Int64
	says := func(n int) body {
		return func(th *gate.Thread) {
			if !th.Live() || th.Number() != n {
				t.Errorf("P1.4: the thread %d: %v, %d", n, th.Live(), th.Number())
			}
			refused(t, th)
		}
	}
	falling := func(th *gate.Thread) {
		defer says(1)(th)
		panic(1)
	}
	r := gate.Run(nil, 9, all(says(0), load(&x), says(0), begins(all(says(2), load(&x), says(2))), says(0)), falling)
	if r.Turns != 3 || r.End != api.Over || len(r.Log) != 3 {
		t.Errorf("P1.4: %s", told(r))
	}
}

func TestGoAnswers(t *testing.T) {
	var x atomic.Int64
	var numbers []int
	goes := func(f body) body { return func(t *gate.Thread) { numbers = append(numbers, t.Go(f)) } }
	r := gate.Run([]int{0, 0, 0, 0}, 99, all(goes(nil), goes(falls(1)), goes(load(&x)), goes(nil)), goes(nil))
	if !slices.Equal(numbers, []int{2, 3, 4, 5, 6}) || !slices.Equal(r.Fell, []int{3}) || r.End != api.Over || r.Turns != 6 {
		t.Errorf("P1.4: %v: %s", numbers, told(r))
	}
}

func TestMarks(t *testing.T) {
	r := gate.Run(nil, 0, all(marks(-1, -1<<63), marks(0, 0)), marks(7, 2))
	if want := "0 mark -1 -1 -9223372036854775808: 0 0; 0 mark -1 0 0: 0 0; 1 mark -1 7 2: 0 0"; texts(r.Log) != want || r.Turns != 0 || r.End != api.Over {
		t.Errorf("P1.4: %s", told(r))
	}
}

// dead: what each call of a thread that does not live answers.
func dead(t *testing.T, what string, th *gate.Thread) {
	t.Helper()
	var v atomic.Int64
	v.Store(3)
	begun := false
	if th.Live() || th.Number() != -1 || th.Go(func(t *gate.Thread) { begun = true }) != -1 || th.Go(nil) != -1 || begun {
		t.Errorf("P1.5: %s: %v, %d, begun %v", what, th.Live(), th.Number(), begun)
	}
	for op := int8(-1); op <= 9; op++ {
		if was, now, ok := th.Step(&v, op, 3, 4); was != 0 || now != 0 || ok || v.Load() != 3 {
			t.Errorf("P1.5: %s: op %d: %d, %d, %v, the cell holds %d", what, op, was, now, ok, v.Load())
		}
	}
	th.Mark(1, 2)
	refused(t, th)
}

func TestAThreadThatDoesNotLive(t *testing.T) {
	var x atomic.Int64
	dead(t, "nil", nil)
	dead(t, "made by no run", &gate.Thread{})
	dead(t, "made by no run", new(gate.Thread))
	kept := make([]*gate.Thread, 4)
	keeps := func(f body) body {
		return func(t *gate.Thread) {
			kept[t.Number()] = t
			f(t)
		}
	}
	asks := func(th *gate.Thread) {
		th.Step(&x, api.OpLoad, 0, 0)
		for n, k := range kept[:2] {
			dead(t, "ended in this run: "+string(rune('0'+n)), k)
		}
		th.Mark(5, 5)
	}
	r := gate.Run(nil, 9, keeps(func(t *gate.Thread) {}), keeps(falls(1)), asks, keeps(park(&x, 0)))
	if want := "2 L 0 0 0: 0 0; 2 mark -1 5 5: 0 0"; texts(r.Log) != want || r.End != api.Dead {
		t.Errorf("P1.5: %s", told(r))
	}
	kept[2] = kept[3]
	for _, k := range kept {
		dead(t, "of a run that has answered", k)
	}
	r = gate.Run(nil, 9, func(*gate.Thread) { dead(t, "of another run", kept[0]) })
	if len(r.Log) != 0 || r.Turns != 0 {
		t.Errorf("P1.5: %s", told(r))
	}
	if again, _, _ := gate.Again(nil, keeps(load(&x))); again.End != api.Cut {
		t.Errorf("P1.5: %s", told(again))
	}
	dead(t, "stopped", kept[0])
}

// TestStopped: each access of a stopped thread panics with the gate's own value; nothing of it is told.
func TestStopped(t *testing.T) {
	var x atomic.Int64
	for _, most := range []int{0, 1} {
		x.Store(0)
		var order []int
		seen := make([]int, 3)
		stops := func(n int, at body) body {
			return func(th *gate.Thread) {
				defer func() { order = append(order, n) }()
				for _, f := range []body{at, store(&x, 9), park(&x, 9), begins(falls(1)), at} {
					goesOn(&seen[n], f)(th)
					th.Mark(10, int64(n))
					if !th.Live() || th.Number() != n {
						t.Errorf("P1.4: %v, %d", th.Live(), th.Number())
					}
					refused(t, th)
				}
				panic("falls, but is stopped")
			}
		}
		r := gate.Run(nil, most, stops(0, park(&x, 0)), stops(1, begins(nil)), stops(2, cas(&x, 0, 1)))
		if most == 0 && (!slices.Equal(seen, []int{5, 5, 5}) || len(r.Log) != 0) || most == 1 && (!slices.Equal(seen, []int{5, 4, 5}) || texts(r.Log) != "1 Go -1 0 0: 0 3; 1 mark -1 10 1: 0 0") {
			t.Errorf("stopped: seen %v: %s", seen, told(r))
		}
		if r.End != api.Cut || len(r.Left) != 3 || len(r.Fell) != 0 || x.Load() != 0 || !slices.Equal(order, []int{0, 1, 2}) {
			t.Errorf("stopped: in the order %v, the cell holds %d: %s", order, x.Load(), told(r))
		}
	}
}

// TestStoppedWhileFalling: one that stands at a deferred access has not ended; it is stopped, and has not fallen.
func TestStoppedWhileFalling(t *testing.T) {
	var x atomic.Int64
	var first, last any
	r := gate.Run(nil, 9, func(t *gate.Thread) {
		defer func() {
			last = recover()
			panic(last)
		}()
		defer func() { t.Step(&x, api.OpStore, 1, 0) }()
		defer func() {
			defer func() {
				first = recover()
				panic(first)
			}()
			t.Step(&x, api.OpPark, 0, 0)
		}()
		panic(1)
	})
	if r.End != api.Dead || len(r.Fell) != 0 || texts(r.Left) != "0 P -1 0 0: 0 0" || !gate.Is(first) || !gate.Is(last) || x.Load() != 0 {
		t.Errorf("stopped: %v, %v: %s", first, last, told(r))
	}
}

// TestRunOfAStoppedThread: a run in a deferred call of a stopped thread is a run like all others.
func TestRunOfAStoppedThread(t *testing.T) {
	var x, y atomic.Int64
	var inner api.Report
	r := gate.Run(nil, 9, func(t *gate.Thread) {
		defer func() { inner = gate.Run(nil, 9, all(add(&y, 1), falls(1))) }()
		t.Step(&x, api.OpPark, 0, 0)
	})
	if want := "end 1 1 | log 0 A 0 1 0: 0 1 | went 0 | ready 1 | left  | fell 0 "; told(inner) != want || r.End != api.Dead || len(r.Log) != 0 {
		t.Errorf("P1.7: %s in %s", told(inner), told(r))
	}
}
