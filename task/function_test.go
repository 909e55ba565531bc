package task_test

import (
	"errors"
	"io"
	"math"
	"runtime"
	"slices"
	"strconv"
	"testing"
	"weak"

	"treadle/aid"
	"treadle/api"
	"treadle/cell"
	"treadle/fault"
	"treadle/gate"
	"treadle/task"
	"treadle/token"
)

// answers: a function that answers this.
func answers(v int64, e error) function {
	return func(*gate.Thread) (int64, error) { return v, e }
}

// panics: a function that panics with this.
func panics(x any) function {
	return func(*gate.Thread) (int64, error) { panic(x) }
}

// TestValues: what a function answers is what each Wait is told, and the task has ended.
func TestValues(t *testing.T) {
	by(t, func(who string, th *gate.Thread) {
		for _, v := range aid.Values() {
			x := task.New(1, nil, answers(v, nil))
			ran := x.Run(th)
			for range 3 {
				if got, e := x.Wait(th); got != v || e != nil || !ran || x.State(th) != task.Ended {
					t.Errorf("P13.2, P13.4: %d, by %s: %d %v", v, who, got, e)
				}
			}
		}
	})
}

// TestErrors: an error that a function answers is what each Wait is told, just that one, with 0, and the task has fallen.
func TestErrors(t *testing.T) {
	by(t, func(who string, th *gate.Thread) {
		for i, e := range aid.Errors() {
			for _, v := range []int64{0, 5, -1, math.MinInt64} {
				x := task.New(1, nil, answers(v, e))
				ran := x.Run(th)
				for range 3 {
					if got, is := x.Wait(th); got != 0 || is != e || !ran || x.State(th) != task.Fell {
						t.Errorf("P13.2, P13.4: the error number %d beside %d, by %s: %d %v", i, v, who, got, is)
					}
				}
			}
		}
		x := task.New(1, nil, answers(5, aid.Awkward{io.EOF}))
		x.Run(th)
		if v, e := x.Wait(th); v != 0 || e.(aid.Awkward)[0] != io.EOF || x.State(th) != task.Fell {
			t.Errorf("P13.2: an error that is not to be asked, by %s: %d", who, v)
		}
	})
}

// TestPanics: what a function panics with is carried to each Wait, and comes out of no Run.
func TestPanics(t *testing.T) {
	by(t, func(who string, th *gate.Thread) {
		for what, row := range aid.Falls() {
			x := task.New(1, nil, func(*gate.Thread) (int64, error) { row.Do(); return 5, io.EOF })
			ran := false
			if out := aid.Caught(func() { ran = x.Run(th) }); out != nil || !ran || x.State(th) != task.Fell {
				t.Errorf("P13.2: %s, by %s: it answers %v, out comes %v", what, who, ran, out)
			}
			_, first := x.Wait(th)
			for range 3 {
				v, e := x.Wait(th)
				p, is := e.(*fault.Panicked)
				if v != 0 || !is || e != first || row.With != nil && p.Value != row.With || p.Value == nil {
					t.Fatalf("P13.2, P13.4: %s, by %s: %d %#v", what, who, v, e)
				}
				within, _ := row.With.(error)
				if !errors.Is(e, api.ErrPanic) || errors.Is(e, io.EOF) || errors.Is(e, within) || fault.Class(e) != api.ErrPanic {
					t.Errorf("what follows: %s, by %s: found is %d", what, who, fault.Class(e))
				}
			}
		}
	})
}

// TestRecovers: what a function recovers itself is its own: what counts is how it ends.
func TestRecovers(t *testing.T) {
	x := task.New(1, nil, func(*gate.Thread) (v int64, e error) {
		defer func() { _ = recover(); v, e = 8, nil }()
		panic("x")
	})
	if ran := x.Run(nil); !ran || x.State(nil) != task.Ended {
		t.Errorf("P13.2: %v", ran)
	}
	if v, e := x.Wait(nil); v != 8 || e != nil {
		t.Errorf("P13.2: %d %v", v, e)
	}
}

// TestCancelledIsFound: the error of a task that is cancelled, or dropped: an error of its own, with the reason, and the same to all.
func TestCancelledIsFound(t *testing.T) {
	by(t, func(who string, th *gate.Thread) {
		k := token.New()
		k.Cancel(th, 5)
		a, b, c := task.New(1, nil, panics("never")), task.New(2, k, panics("never")), task.New(3, k, panics("never"))
		if !a.Cancel(th, 5) || b.Run(th) || !c.Cancel(th, 6) {
			t.Errorf("P13.2, P13.3: by %s", who)
		}
		var seen []error
		for i, x := range []*task.Task{a, b, c} {
			v, e := x.Wait(th)
			_, again := x.Wait(th)
			p, is := e.(*fault.Cancelled)
			if v != 0 || !is || p.Reason != []int64{5, 5, 6}[i] || e != again || !errors.Is(e, api.ErrCancelled) || fault.Class(e) != api.ErrCancelled || x.State(th) != task.Fell {
				t.Errorf("what follows: the task %d, by %s: %d %#v", i, who, v, e)
			}
			seen = append(seen, e)
		}
		if seen[0] == seen[1] || seen[1] == seen[2] {
			t.Errorf("R5: two tasks have one error")
		}
	})
}

// TestDeeds: what functions do to their own task, to their token and to other tasks, by each thread that does not live, and by one that does.
func TestDeeds(t *testing.T) {
	by(t, func(who string, th *gate.Thread) {
		for _, row := range []struct {
			what  string
			p     plan
			calls []call
			want  string
		}{
			{"it runs its own task", one(fine(1, runs(0), runs(0), asks(0))), []call{runs(0), waits(0)}, "f0( run0:no run0:no state0:1 ) run0:yes wait0:1"},
			{"it cancels its own task", one(fine(1, cancels(0, 3), cancels(0, 0), asks(0))), []call{runs(0), waits(0), cancels(0, 3)}, "f0( cancel0:no cancel0:no state0:1 ) run0:yes wait0:1 cancel0:no"},
			{"it cancels its own task, and panics", one(fallen("x", cancels(0, 3))), []call{runs(0), waits(0)}, "f0( cancel0:no ) run0:yes wait0:panicked:x"},
			{"it cancels its own token", held(fine(1, stops(0, 3), stops(0, 4), asks(0))), []call{runs(0), waits(0), stops(0, 5)}, "f0( stop0:yes stop0:no state0:1 ) run0:yes wait0:1 stop0:no"},
			{"it cancels its own token, and fails", held(failed(io.EOF, stops(0, 3))), []call{runs(0), waits(0)}, "f0( stop0:yes ) run0:yes wait0:EOF"},
			{"it tells that it is cancelled itself", held(failed(&fault.Cancelled{Reason: 8})), []call{runs(0), waits(0), asks(0)}, "f0( ) run0:yes wait0:cancelled:8 state0:3"},
			{"it runs another one", plan{tasks: []spec{{1, none, fine(1, runs(1), waits(1), asks(1))}, {2, none, fine(2, asks(0), runs(0))}}}, []call{runs(0), waits(0), runs(1)}, "f0( f1( state0:1 run0:no ) run1:yes wait1:2 state1:2 ) run0:yes wait0:1 run1:no"},
			{"it runs another one, which panics", plan{tasks: []spec{{1, none, fine(1, runs(1), waits(1))}, {2, none, fallen("x")}}}, []call{runs(0), waits(0)}, "f0( f1( ) run1:yes wait1:panicked:x ) run0:yes wait0:1"},
			{"it cancels another one", plan{tasks: []spec{{1, none, fallen("y", cancels(1, 4), waits(1), runs(1))}, {2, none, fallen("never")}}}, []call{runs(0), waits(0), asks(1)}, "f0( cancel1:yes wait1:cancelled:4 run1:no ) run0:yes wait0:panicked:y state1:3"},
			{"it cancels the token of another one", plan{tokens: 1, tasks: []spec{{1, none, fine(1, stops(0, 4), asks(1), runs(1), waits(1))}, {2, 0, fallen("never")}}}, []call{runs(0), waits(0)}, "f0( stop0:yes state1:0 run1:no wait1:cancelled:4 ) run0:yes wait0:1"},
			{"it finds another one run by then", plan{tasks: []spec{{1, none, fine(1, runs(1), cancels(1, 3), waits(1))}, {2, none, fine(2)}}}, []call{runs(1), runs(0)}, "f1( ) run1:yes f0( run1:no cancel1:no wait1:2 ) run0:yes"},
			{"it asks those that are none", one(fine(1, runs(-1), cancels(-1, 3), waits(-1), asks(-1), stops(-1, 3))), []call{runs(0)}, "f0( run-1:no cancel-1:no wait-1:errno:2 state-1:0 stop-1:no ) run0:yes"},
		} {
			w := row.p.world()
			w.awake = true
			if got := w.makes(th, row.calls...); got != row.want || len(w.follows(nil)) != 0 {
				t.Errorf("P13.2 to P13.5: %s, by %s:\n got %s\nwant %s: %v", row.what, who, got, row.want, w.follows(nil))
			}
		}
	})
}

// TestItIsHandedTheThread: just the one that the Run was handed, and its accesses and marks are that thread's.
func TestItIsHandedTheThread(t *testing.T) {
	for what, th := range aid.NotLiving() {
		called := 0
		x := task.New(1, token.New(), func(u *gate.Thread) (int64, error) {
			if called++; u != th {
				t.Errorf("P13.2: %s: it is handed another", what)
			}
			return 1, nil
		})
		if x.Run(th); called != 1 {
			t.Errorf("P13.2: %s: %d are called", what, called)
		}
	}
	c := cell.New(0)
	x := task.New(8, nil, func(u *gate.Thread) (int64, error) {
		u.Mark(8, 10)
		n := c.Add(u, 3)
		return n + int64(u.Number()), nil
	})
	r := gate.Run([]int{1, 0, 1, 0, 0}, 99, func(th *gate.Thread) { x.Wait(th) }, func(th *gate.Thread) { x.Run(th) })
	want := "1 cas c0 0 1: 0 ok; 1 mark 8 2; 1 mark 8 10; 0 load c0: 1; 1 add c1 3: 0; 1 mark 8 3; 1 store c0 2: 1; 0 park c0 1: 2"
	if v, e := x.Wait(nil); aid.Texts(r.Log) != want || r.End != api.Over || v != 4 || e != nil {
		t.Errorf("P13.2: %d %v: %s\nnot %s", v, e, aid.Texts(r.Log), want)
	}
}

// TestItBeginsThreads: a function may begin threads, which find the task claimed, or settled.
func TestItBeginsThreads(t *testing.T) {
	w := one(fine(1)).world()
	got := ""
	x := task.New(9, nil, func(t *gate.Thread) (int64, error) {
		n := t.Go(func(t *gate.Thread) { got = w.makes(t, runs(1), cancels(1, 3), asks(1), waits(1)) })
		return int64(n), nil
	})
	w.tasks, w.facts = append(w.tasks, x), append(w.facts, fact{})
	r := gate.Run([]int{0, 0, -1, -1, -1, -1, 0, -1}, 99, func(t *gate.Thread) { x.Run(t) })
	if want := "run1:no cancel1:no state1:1 wait1:1"; got != want || r.End != api.Over {
		t.Errorf("P13.2: %s, not %s: %+v", got, want, r)
	}
}

// TestStoppedInItsMidst: a function whose thread is stopped, whatever it does about that: the gate's own panic goes on out of the Run, nothing more is done, and the task stays claimed.
func TestStoppedInItsMidst(t *testing.T) {
	x := cell.New(0)
	adds := func(t *gate.Thread) { x.Add(t, 1) }
	midsts := aid.Midsts(adds)
	midsts["sleeps"] = func(t *gate.Thread) { x.Park(t, 0) }
	for what, f := range midsts {
		for _, k := range []*token.Token{nil, token.New()} {
			called := 0
			y := task.New(7, k, func(t *gate.Thread) (int64, error) {
				called++
				f(t)
				return 5, nil
			})
			var out any
			turns, log := 1, "0 cas c0 0 1: 0 ok; 0 mark 7 2"
			if k != nil {
				turns, log = 2, "0 cas c0 0 1: 0 ok; 0 load c1: 0; 0 mark 7 2"
			}
			r := gate.Run(nil, turns, func(t *gate.Thread) { out = aid.Caught(func() { y.Run(t) }) })
			if !gate.Is(out) || len(r.Left) != 1 || aid.Texts(r.Log) != log || called != 1 || x.Load(nil) != 0 {
				t.Errorf("P13.2: %s: %v comes out: %d are called: %+v", what, out, called, r)
			}
			if y.State(nil) != task.Claimed || y.Run(nil) || y.Cancel(nil, 4) || y.State(nil) != task.Claimed || called != 1 {
				t.Errorf("P13.2: %s: behind it the state is %d, %d are called", what, y.State(nil), called)
			}
			r = gate.Run(nil, 9, func(t *gate.Thread) { y.Wait(t) })
			if aid.Texts(r.Log) != "0 load c0: 1" || aid.Texts(r.Left) != "0 park c0 1: 1" || r.End != api.Dead {
				t.Errorf("P13.2: %s: who waits behind it: %+v", what, r)
			}
		}
	}
}

// TestGatesOwn: kept from another run, the gate's own panic goes on just so, wherever a function has it from.
func TestGatesOwn(t *testing.T) {
	_, own := aid.Stopped()
	for what, f := range map[string]function{
		"panics with it": panics(own),
		"behind another": func(*gate.Thread) (int64, error) { defer panic(own); panic("x") },
		"behind answers": func(*gate.Thread) (int64, error) { defer panic(own); return 5, io.EOF },
		"runs one that panics with it": func(t *gate.Thread) (int64, error) {
			task.New(8, nil, panics(own)).Run(t)
			return 5, nil
		},
	} {
		for who, th := range aid.NotLiving() {
			x := task.New(7, nil, f)
			if out := aid.Caught(func() { x.Run(th) }); out != own || x.State(nil) != task.Claimed {
				t.Errorf("P13.2: one that %s, by %s: %v comes out, the state is %d", what, who, out, x.State(nil))
			}
		}
		x, y := task.New(7, nil, f), task.New(8, nil, f)
		var out any
		r := gate.Run([]int{0, 1}, 9, func(t *gate.Thread) { out = aid.Caught(func() { x.Run(t) }) }, func(t *gate.Thread) { y.Run(t) })
		if out != own || r.End != api.Over || len(r.Fell) != 1 || r.Turns < 2 || x.State(nil) != task.Claimed || y.State(nil) != task.Claimed {
			t.Errorf("P13.2: one that %s, by a thread: %v comes out: %+v", what, out, r)
		}
		if slices.ContainsFunc(r.Log, func(a api.Access) bool { return a.Op == api.OpMark && a.New != 2 || a.Op == api.OpStore }) {
			t.Errorf("P13.2: one that %s, by a thread: something is done behind it: %s", what, aid.Texts(r.Log))
		}
	}
	x := task.New(7, nil, func(t *gate.Thread) (int64, error) { return 0, fault.Of(own) })
	if x.Run(nil); x.State(nil) != task.Fell {
		t.Errorf("P13.2: one that answers what has it within: the state is %d", x.State(nil))
	}
}

// TestExits: a function that ends its goroutine does not come back, as little as one that is stopped.
func TestExits(t *testing.T) {
	x := task.New(7, nil, func(*gate.Thread) (int64, error) { runtime.Goexit(); return 5, nil })
	out := any("none")
	aid.Beside(1, func(int) {
		defer func() { out = recover() }()
		x.Run(nil)
		t.Error("P13.2: it comes back")
	})
	if out != nil || x.State(nil) != task.Claimed || x.Run(nil) || x.Cancel(nil, 1) {
		t.Errorf("P13.2: %v comes out, the state is %d", out, x.State(nil))
	}
}

// TestNested: tasks that run one another, to the document's bound; the last one answers, fails, or panics: each tells its own.
func TestNested(t *testing.T) {
	const parts = 1 << 16
	for what, end := range map[string]function{"3": answers(3, nil), "EOF": answers(3, io.EOF), "panicked:x": panics("x")} {
		all := make([]*task.Task, parts)
		for i := range all {
			all[i] = task.New(int64(i), nil, func(t *gate.Thread) (int64, error) {
				if all[i+1].Run(t); i%2 == 0 {
					panic(i)
				}
				return int64(i), nil
			})
			if i == parts-1 {
				all[i] = task.New(int64(i), nil, end)
			}
		}
		if !all[0].Run(nil) {
			t.Errorf("R1: %s: it is not run", what)
		}
		for i, x := range all {
			a := aid.Told(x.Wait(nil))
			want := map[bool]string{true: "panicked:" + strconv.Itoa(i), false: strconv.Itoa(i)}[i%2 == 0]
			if i == parts-1 {
				want = what
			}
			if a.String() != want {
				t.Fatalf("P13.2: %s: the task %d tells %v, not %s", what, i, a, want)
			}
		}
	}
}

// TestNestedStopped: where the thread of tasks in one another is stopped, all that were claimed stay so; to the document's bound, too.
func TestNestedStopped(t *testing.T) {
	for turns := range 100 {
		nestedStopped(t, 100, turns)
	}
	nestedStopped(t, 1<<16, 1<<16)
}

// nestedStopped: of so many tasks, behind so many turns.
func nestedStopped(t *testing.T, parts, turns int) {
	t.Helper()
	all := make([]*task.Task, parts)
	for i := range all {
		all[i] = task.New(int64(i), nil, func(t *gate.Thread) (int64, error) {
			if i < parts-1 {
				all[i+1].Run(t)
			}
			return 5, nil
		})
	}
	var out any
	gate.Run(nil, turns, func(t *gate.Thread) { out = aid.Caught(func() { all[0].Run(t) }) })
	if !gate.Is(out) {
		t.Errorf("P13.2: %d turns: %v comes out", turns, out)
	}
	for i, x := range all {
		if s := x.State(nil); s != aid.Digit(i < turns) {
			t.Fatalf("P13.2: %d turns: the state of the task %d is %d", turns, i, s)
		}
	}
}

// value: one that holds memory.
type value [100]int

func isKept[T any](p weak.Pointer[T]) bool {
	for range 9 {
		runtime.GC()
	}
	return p.Value() != nil
}

// TestNothingIsKept: a function that nobody will call any more, and a token that nobody will ask, are not kept by their task.
func TestNothingIsKept(t *testing.T) {
	upTo := func(turns int) func(x *task.Task, k *token.Token) {
		return func(x *task.Task, _ *token.Token) { gate.Run(nil, turns, func(t *gate.Thread) { x.Run(t) }) }
	}
	for what, row := range map[string]struct {
		does func(x *task.Task, k *token.Token)
		kept bool
	}{
		"made":                           {func(*task.Task, *token.Token) {}, true},
		"its token is cancelled":         {func(_ *task.Task, k *token.Token) { k.Cancel(nil, 3) }, true},
		"a Cancel is refused":            {func(x *task.Task, _ *token.Token) { x.Cancel(nil, 0) }, true},
		"stopped ahead of the claim":     {upTo(0), true},
		"stopped behind the claim":       {upTo(1), false},
		"stopped in the function":        {upTo(2), false},
		"stopped behind the function":    {upTo(3), false},
		"run":                            {upTo(4), false},
		"run, free":                      {func(x *task.Task, _ *token.Token) { x.Run(nil) }, false},
		"cancelled":                      {func(x *task.Task, _ *token.Token) { x.Cancel(nil, 1) }, false},
		"run, and its token is its last": {func(x *task.Task, k *token.Token) { x.Run(nil); k.Cancel(nil, 3) }, false},
		"dropped":                        {func(x *task.Task, k *token.Token) { k.Cancel(nil, 3); x.Run(nil) }, false},
	} {
		made := func() (*task.Task, weak.Pointer[value], weak.Pointer[token.Token]) {
			v, k, c := new(value), token.New(), cell.New(0)
			x := task.New(1, k, func(t *gate.Thread) (int64, error) { c.Add(t, 1); return int64(v[0]), nil })
			row.does(x, k)
			return x, weak.Make(v), weak.Make(k)
		}
		x, v, k := made()
		if f, k := isKept(v), isKept(k); f != row.kept || k != row.kept {
			t.Errorf("what is kept: %s: the function: %v, the token: %v", what, f, k)
		}
		runtime.KeepAlive(x)
	}
}
