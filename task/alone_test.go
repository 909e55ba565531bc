package task_test

import (
	"io"
	"math"
	"testing"

	"treadle/aid"
	"treadle/api"
	"treadle/fault"
	"treadle/gate"
	"treadle/task"
	"treadle/token"
)

// by calls f with each thread that does not live, and with one that does.
func by(t *testing.T, f func(who string, th *gate.Thread)) {
	t.Helper()
	for _, f := range aid.By(f) {
		t.Errorf("R1: %s", f)
	}
}

// TestExamples: the chapter's table.
func TestExamples(t *testing.T) {
	never := fallen("never")
	by(t, func(who string, th *gate.Thread) {
		for _, row := range []struct {
			p     plan
			calls []call
			want  string
		}{
			{one(fine(42)), []call{asks(0), runs(0), runs(0), cancels(0, 1), waits(0), asks(0)}, "state0:0 f0( ) run0:yes run0:no cancel0:no wait0:42 state0:2"},
			{one(fallen(1)), []call{runs(0), waits(0), asks(0)}, "f0( ) run0:yes wait0:panicked:1 state0:3"},
			{one(never), []call{cancels(0, 0), cancels(0, 5), runs(0), waits(0)}, "cancel0:no cancel0:yes run0:no wait0:cancelled:5"},
			{held(never), []call{stops(0, 9), runs(0), waits(0)}, "stop0:yes run0:no wait0:cancelled:9"},
		} {
			w := row.p.world()
			if got := w.makes(th, row.calls...); got != row.want || w.tasks[0].Number() != 7 {
				t.Errorf("P13.1 to P13.5: by %s: %v: %s, not %s", who, row.calls, got, row.want)
			}
		}
	})
}

// TestStates: as the chapter numbers them.
func TestStates(t *testing.T) {
	if got := [4]int{task.Waits, task.Claimed, task.Ended, task.Fell}; got != [4]int{0, 1, 2, 3} {
		t.Errorf("%v", got)
	}
	by(t, func(who string, th *gate.Thread) {
		claimed := one(fine(1, asks(0)))
		for what, row := range map[string]struct {
			p    plan
			want string
		}{
			"made": {one(fine(1)), "state0:0"}, "refused": {one(fine(1), cancels(0, 0), cancels(0, -1)), "state0:0"}, "its token is cancelled": {held(fine(1), stops(0, 3)), "state0:0"},
			"run": {one(fine(1), runs(0)), "state0:2"}, "run, with a token": {held(fine(1), runs(0), stops(0, 3)), "state0:2"}, "of no value": {one(fine(0), runs(0)), "state0:2"},
			"failed": {one(failed(io.EOF), runs(0)), "state0:3"}, "panicked": {one(fallen("x"), runs(0)), "state0:3"}, "cancelled": {one(fine(1), cancels(0, 1)), "state0:3"},
			"dropped": {held(fine(1), stops(0, 3), runs(0)), "state0:3"},
		} {
			if got := row.p.world().makes(th, asks(0)); got != row.want {
				t.Errorf("P13.5: %s, by %s: %s, not %s", what, who, got, row.want)
			}
		}
		if got, want := claimed.world().makes(th, runs(0)), "f0( state0:1 ) run0:yes"; got != want {
			t.Errorf("P13.5: claimed, by %s: %s, not %s", who, got, want)
		}
	})
}

// TestSteps: of each call, where nobody else goes between them.
func TestSteps(t *testing.T) {
	const ran, dropped = "0 cas c0 0 1: 0 ok; 0 mark 7 2; 0 mark 7 3; 0 store c0 2: 1", "0 cas c0 0 1: 0 ok; 0 mark 7 4; 0 store c0 3: 1"
	const fell = "0 cas c0 0 1: 0 ok; 0 mark 7 2; 0 mark 7 3; 0 store c0 3: 1"
	never := fallen("never")
	for _, row := range []struct {
		p    plan
		c    call
		log  string
		want string
	}{
		{one(fine(1)), runs(0), ran, "f0( ) run0:yes"},
		{one(fine(0)), runs(0), ran, "f0( ) run0:yes"},
		{one(failed(io.EOF)), runs(0), fell, "f0( ) run0:yes"},
		{one(failed(&fault.Cancelled{Reason: 4})), runs(0), fell, "f0( ) run0:yes"},
		{one(failed((*fault.Failed)(nil))), runs(0), fell, "f0( ) run0:yes"},
		{one(failed(api.OK)), runs(0), fell, "f0( ) run0:yes"},
		{one(fallen("x")), runs(0), fell, "f0( ) run0:yes"},
		{one(fallen(nil)), runs(0), fell, "f0( ) run0:yes"},
		{one(fine(1, adds(), adds())), runs(0), "0 cas c0 0 1: 0 ok; 0 mark 7 2; 0 add c1 1: 0; 0 add c1 1: 1; 0 mark 7 3; 0 store c0 2: 1", "f0( add:1 add:2 ) run0:yes"},
		{one(fallen("x", adds())), runs(0), "0 cas c0 0 1: 0 ok; 0 mark 7 2; 0 add c1 1: 0; 0 mark 7 3; 0 store c0 3: 1", "f0( add:1 ) run0:yes"},
		{one(fine(1, runs(0), cancels(0, 3), cancels(0, 0), asks(0))), runs(0), "0 cas c0 0 1: 0 ok; 0 mark 7 2; 0 cas c0 0 1: 1 no; 0 cas c0 0 1: 1 no; 0 load c0: 1; 0 mark 7 3; 0 store c0 2: 1", "f0( run0:no cancel0:no cancel0:no state0:1 ) run0:yes"},
		{one(fine(1), runs(0)), runs(0), "0 cas c0 0 1: 2 no", "run0:no"},
		{one(fallen("x"), runs(0)), runs(0), "0 cas c0 0 1: 3 no", "run0:no"},
		{one(never, cancels(0, 5)), runs(0), "0 cas c0 0 1: 3 no", "run0:no"},
		{held(fine(1)), runs(0), "0 cas c0 0 1: 0 ok; 0 load c1: 0; 0 mark 7 2; 0 mark 7 3; 0 store c0 2: 1", "f0( ) run0:yes"},
		{held(failed(io.EOF)), runs(0), "0 cas c0 0 1: 0 ok; 0 load c1: 0; 0 mark 7 2; 0 mark 7 3; 0 store c0 3: 1", "f0( ) run0:yes"},
		{held(fine(1, stops(0, 4))), runs(0), "0 cas c0 0 1: 0 ok; 0 load c1: 0; 0 mark 7 2; 0 cas c1 0 4: 0 ok; 0 swap c2 -1: 0; 0 mark 7 3; 0 store c0 2: 1", "f0( stop0:yes ) run0:yes"},
		{held(never, stops(0, 9)), runs(0), "0 cas c0 0 1: 0 ok; 0 load c1: 9; 0 mark 7 4; 0 store c0 3: 1", "run0:no"},
		{held(never, stops(0, 9), runs(0)), runs(0), "0 cas c0 0 1: 3 no", "run0:no"},
		{held(fine(1), runs(0), stops(0, 9)), runs(0), "0 cas c0 0 1: 2 no", "run0:no"},
		{held(never, cancels(0, 5), stops(0, 9)), runs(0), "0 cas c0 0 1: 3 no", "run0:no"},
		{one(fine(1)), runs(-1), "", "run-1:no"},
		{one(never), cancels(0, 5), dropped, "cancel0:yes"},
		{one(never), cancels(0, 1), dropped, "cancel0:yes"},
		{one(never), cancels(0, math.MaxInt64), dropped, "cancel0:yes"},
		{held(never), cancels(0, 5), dropped, "cancel0:yes"},
		{held(never, stops(0, 9)), cancels(0, 5), dropped, "cancel0:yes"},
		{one(never), cancels(0, 0), "", "cancel0:no"},
		{one(never), cancels(0, -1), "", "cancel0:no"},
		{one(never), cancels(0, math.MinInt64), "", "cancel0:no"},
		{one(never, cancels(0, 5)), cancels(0, 5), "0 cas c0 0 1: 3 no", "cancel0:no"},
		{one(never, cancels(0, 5)), cancels(0, 6), "0 cas c0 0 1: 3 no", "cancel0:no"},
		{one(never, cancels(0, 5)), cancels(0, 0), "", "cancel0:no"},
		{one(fine(1), runs(0)), cancels(0, 5), "0 cas c0 0 1: 2 no", "cancel0:no"},
		{held(never, stops(0, 9), runs(0)), cancels(0, 5), "0 cas c0 0 1: 3 no", "cancel0:no"},
		{one(never), cancels(-1, 5), "", "cancel-1:no"},
		{one(never), cancels(-1, 0), "", "cancel-1:no"},
		{one(fine(1), runs(0)), waits(0), "0 load c0: 2", "wait0:1"},
		{one(fine(0), runs(0)), waits(0), "0 load c0: 2", "wait0:0"},
		{one(failed(io.EOF), runs(0)), waits(0), "0 load c0: 3", "wait0:EOF"},
		{one(fallen("x"), runs(0)), waits(0), "0 load c0: 3", "wait0:panicked:x"},
		{one(never, cancels(0, 5)), waits(0), "0 load c0: 3", "wait0:cancelled:5"},
		{held(never, stops(0, 9), runs(0)), waits(0), "0 load c0: 3", "wait0:cancelled:9"},
		{one(never), waits(-1), "", "wait-1:errno:2"},
		{one(never), asks(0), "0 load c0: 0", "state0:0"},
		{one(fine(1), runs(0)), asks(0), "0 load c0: 2", "state0:2"},
		{one(never, cancels(0, 5)), asks(0), "0 load c0: 3", "state0:3"},
		{one(never), asks(-1), "", "state-1:0"},
	} {
		w := row.p.world()
		report, got := w.alone(row.c)
		if log := aid.Texts(report.Log); log != row.log || got != row.want || report.End != api.Over {
			t.Errorf("P13.1 to P13.5: %v of %v:\n got %s: %s\nwant %s: %s", row.c, row.p, got, log, row.want, row.log)
		}
	}
}

// TestSleeps: who waits for a task that nobody settles sleeps at its state.
func TestSleeps(t *testing.T) {
	w := one(fine(1)).world()
	report, got := w.alone(waits(0))
	if aid.Texts(report.Log) != "0 load c0: 0" || aid.Texts(report.Left) != "0 park c0 0: 0" || report.End != api.Dead || got != "" {
		t.Errorf("P13.4: %s: %+v", got, report)
	}
	if got, want := w.makes(nil, asks(0), runs(0), waits(0)), "state0:0 f0( ) run0:yes wait0:1"; got != want {
		t.Errorf("P13.4: behind that: %s, not %s", got, want)
	}
	w = one(fine(1, waits(0))).world()
	report, got = w.alone(runs(0))
	if aid.Texts(report.Log) != "0 cas c0 0 1: 0 ok; 0 mark 7 2; 0 load c0: 1" || aid.Texts(report.Left) != "0 park c0 1: 1" || report.End != api.Dead || got != "f0(" {
		t.Errorf("P13.4: for its own task: %s: %+v", got, report)
	}
	report, got = w.alone(waits(0))
	if aid.Texts(report.Log) != "0 load c0: 1" || aid.Texts(report.Left) != "0 park c0 1: 1" || report.End != api.Dead || got != "" {
		t.Errorf("P13.4: for one that stays claimed: %s: %+v", got, report)
	}
}

// numbers: of tasks: whatever they are.
func numbers() []int64 { return append(aid.Values(), 4, 4096, 1<<31, -1<<31, math.MinInt32-1) }

// TestNew: nil, if the function is, or if the token is none; else a task, whatever its number is.
func TestNew(t *testing.T) {
	cancelled := token.New()
	cancelled.Cancel(nil, 3)
	f := func(*gate.Thread) (int64, error) { return 1, nil }
	for _, n := range numbers() {
		for what, k := range map[string]*token.Token{"no token": nil, "one that lives": token.New(), "one that is cancelled": cancelled} {
			if x := task.New(n, k, nil); x != nil {
				t.Errorf("P13.1: %d, %s: of no function", n, what)
			}
			if x := task.New(n, k, f); x == nil || x.Number() != n || x.State(nil) != task.Waits {
				t.Errorf("P13.1: %d, %s", n, what)
			}
		}
		for what, k := range map[string]*token.Token{"made by no call": {}, "made by new": new(token.Token)} {
			if task.New(n, k, f) != nil || task.New(n, k, nil) != nil {
				t.Errorf("R3: %d, a token %s", n, what)
			}
		}
	}
	k := token.New()
	task.New(1, k, f)
	if _, e := k.Child(nil); e != api.OK || k.Reason(nil) != 0 || !k.Cancel(nil, 3) {
		t.Errorf("P13.1: what is done to the token: %d", e)
	}
}

// TestNewMakesNoAccess: of its token, or whatever, even where its thread has others to make.
func TestNewMakesNoAccess(t *testing.T) {
	k := token.New()
	r := gate.Run(nil, 9, func(th *gate.Thread) {
		x := task.New(7, k, func(*gate.Thread) (int64, error) { return 1, nil })
		task.New(7, k, nil)
		task.New(7, new(token.Token), func(*gate.Thread) (int64, error) { return 1, nil })
		th.Mark(x.Number(), 10)
		k.Reason(th)
	})
	if got, want := aid.Texts(r.Log), "0 mark 7 10; 0 load c0: 0"; got != want {
		t.Errorf("P13.1: %s, not %s", got, want)
	}
}

// TestNumber: it is the task's in each state, and its marks'; others of the same number are others.
func TestNumber(t *testing.T) {
	for _, n := range numbers() {
		p := plan{tokens: 1, tasks: []spec{{n, none, fine(1)}, {n, none, fallen("x")}, {n, none, fine(2)}, {n, 0, fine(3)}, {n, none, fine(4)}}, first: []call{stops(0, 8)}}
		w := p.world()
		report, got := w.alone(runs(0), runs(1), cancels(2, 5), runs(3), waits(0), waits(1), waits(2), waits(3), asks(4))
		if want := "f0( ) run0:yes f1( ) run1:yes cancel2:yes run3:no wait0:1 wait1:panicked:x wait2:cancelled:5 wait3:cancelled:8 state4:0"; got != want {
			t.Errorf("P13.1: %d: %s, not %s", n, got, want)
		}
		kinds := ""
		for _, a := range report.Log {
			if a.Op == api.OpMark && a.Arg == n {
				kinds += string(rune('0' + a.New))
			}
		}
		if kinds != "232344" {
			t.Errorf("P13.2, P13.3: the marks of %d are %s", n, kinds)
		}
		for i, x := range w.tasks {
			if x.Number() != n {
				t.Errorf("P13.1: the task %d: %d, not %d", i, x.Number(), n)
			}
		}
	}
}

// TestReasons: a Cancel takes each from 1 on; what it refuses has changed nothing.
func TestReasons(t *testing.T) {
	by(t, func(who string, th *gate.Thread) {
		for _, n := range append(aid.Values(), 5, math.MinInt64+2, -1<<32) {
			p := plan{tasks: []spec{{1, none, fine(6)}, {2, none, fine(7, cancels(1, n))}, {3, none, fallen("never")}}}
			w := p.world()
			w.makes(nil, cancels(2, 3))
			got := w.makes(th, cancels(0, n), asks(0), runs(0), waits(0), runs(1), waits(1), cancels(2, n), waits(2), cancels(-1, n))
			want := "cancel0:no state0:0 f0( ) run0:yes wait0:6"
			if n > 0 {
				want = "cancel0:yes state0:3 run0:no wait0:" + aid.Told(0, &fault.Cancelled{Reason: n}).String()
			}
			want += " f1( cancel1:no ) run1:yes wait1:7 cancel2:no wait2:cancelled:3 cancel-1:no"
			if got != want {
				t.Errorf("P13.3: by %s: %d: %s, not %s", who, n, got, want)
			}
		}
	})
}

// TestSequences: all short rows of calls of one task, of each kind of function and token, free and by a thread.
func TestSequences(t *testing.T) {
	calls := []call{runs(0), cancels(0, 5), cancels(0, -3), waits(0), stops(0, 9), asks(0)}
	rows := aid.Rows(calls, 4)
	for _, d := range []deed{fine(42), fine(0, runs(0), asks(0)), failed(io.EOF, stops(0, 4)), fallen("x"), fine(7, cancels(0, 2), adds()), failed(&fault.Cancelled{Reason: 2})} {
		for _, p := range []plan{one(d), held(d), held(d, stops(0, 8))} {
			for _, l := range rows {
				w, as := p.world(), p.build(worded)
				as.awake, w.awake = true, true
				as.makes(nil, p.first...)
				want, got := as.makes(nil, l...), w.makes(nil, l...)
				if got != want || len(w.follows(nil)) != 0 {
					t.Fatalf("P13.2 to P13.5: free: %v of %v: %s, not %s: %v", l, p, got, want, w.follows(nil))
				}
				w = p.world()
				w.awake = true
				if r, got := w.alone(l...); got != want || len(w.follows(r.Log)) != 0 || r.End != api.Over {
					t.Fatalf("P13.2 to P13.5: by a thread: %v of %v: %s, not %s: %v", l, p, got, want, w.follows(r.Log))
				}
			}
		}
	}
}

// TestNone: tasks that are none, by threads of every kind: no access, and nothing is told.
func TestNone(t *testing.T) {
	var null *task.Task
	asked := func(who string, th *gate.Thread) {
		for what, x := range map[string]*task.Task{"nil": null, "made by no call": {}, "made by new": new(task.Task), "of no function": task.New(7, nil, nil)} {
			w := &world{tasks: []kind{x}, facts: make([]fact, 1)}
			for _, n := range aid.Values() {
				calls := []call{asks(0), cancels(0, n), runs(0), waits(0), runs(0), cancels(0, 5), asks(0), waits(0)}
				got, want := w.makes(th, calls...), "state0:0 cancel0:no run0:no wait0:errno:2 run0:no cancel0:no state0:0 wait0:errno:2"
				if got != want || x.Number() != 0 {
					t.Errorf("R3: %s, by %s: %d: %s", what, who, n, got)
				}
			}
			if v, e := x.Wait(th); v != 0 || e != error(api.ErrNil) {
				t.Errorf("P13.4: %s, by %s: %d %v", what, who, v, e)
			}
		}
	}
	for _, f := range aid.Idle(asked) {
		t.Errorf("R3: %s", f)
	}
}

// TestNotLiving: a call that is handed a thread that does not live makes no access, and no mark, of the thread in whose goroutine it is, nor do the functions that are called in it.
func TestNotLiving(t *testing.T) {
	for what, th := range aid.NotLiving() {
		p := plan{tokens: 1, tasks: []spec{{1, 0, fine(4, adds(), runs(1), cancels(2, 3), asks(0))}, {2, none, fallen("x", adds())}, {3, none, fine(1)}, {4, 0, fine(1)}}}
		w, got := p.world(), ""
		r := gate.Run(nil, 9, func(*gate.Thread) {
			got = w.makes(th, asks(0), runs(0), waits(0), waits(1), waits(2), stops(0, 8), runs(3), waits(3))
		})
		if want := "state0:0 f0( add:1 f1( add:2 ) run1:yes cancel2:yes state0:1 ) run0:yes wait0:4 wait1:panicked:x wait2:cancelled:3 stop0:yes run3:no wait3:cancelled:8"; got != want || len(r.Log) != 0 || r.End != api.Over {
			t.Errorf("P13.2 to P13.5: %s: %s, not %s: %+v", what, got, want, r)
		}
	}
}

// TestEachIsItsOwn: what one task is, another is not; one token may be that of several.
func TestEachIsItsOwn(t *testing.T) {
	p := plan{tokens: 2, tasks: []spec{{1, 0, fine(1)}, {2, 0, fine(2)}, {3, 1, fine(3)}, {4, none, fine(4)}, {5, 0, fine(5, stops(0, 6))}}}
	w := p.world()
	got := w.makes(nil, runs(0), runs(4), runs(1), runs(2), asks(3), waits(0), waits(1), waits(2), waits(4), cancels(3, 9), waits(3))
	if want := "f0( ) run0:yes f4( stop0:yes ) run4:yes run1:no f2( ) run2:yes state3:0 wait0:1 wait1:cancelled:6 wait2:3 wait4:5 cancel3:yes wait3:cancelled:9"; got != want {
		t.Errorf("P13.2: %s, not %s", got, want)
	}
	k := token.New()
	low, _ := k.Child(nil)
	f := func(*gate.Thread) (int64, error) { return 1, nil }
	x := task.New(1, low, f)
	k.Cancel(nil, 4)
	born, _ := k.Child(nil)
	for what, x := range map[string]*task.Task{"that one above it cancelled": x, "that is born cancelled": task.New(1, born, f)} {
		ran := x.Run(nil)
		if a := aid.Told(x.Wait(nil)); ran || a.String() != "cancelled:4" {
			t.Errorf("P13.2: a token %s: it is run: %v; %v", what, ran, a)
		}
	}
}
