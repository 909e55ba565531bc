package scope_test

import (
	"errors"
	"io"
	"runtime"
	"slices"
	"testing"
	"testing/synctest"

	"treadle/aid"
	"treadle/api"
	"treadle/cell"
	"treadle/fault"
	"treadle/gate"
	"treadle/scope"
	"treadle/token"
)

// tells: whether it is what a Wait tells of the task with that number, whose error is this.
func tells(told error, number int, e error) bool {
	a, is := told.(*fault.At)
	return is && a.Number == number && a.Err == e
}

// TestErrors: an error that a function answers is what each Wait is told, just that one, with the task's number.
func TestErrors(t *testing.T) {
	both(t, func(who string, th *gate.Thread) {
		for i, e := range aid.Errors() {
			s := newScope(th)
			s.Go(th, nothing)
			n, _ := s.Go(th, answers(e))
			for range 3 {
				if told := s.Wait(th); n != 2 || !tells(told, 2, e) || fault.Class(told) != fault.Class(e) || s.Token().Reason(th) != scope.Failed {
					t.Errorf("P19.2, P19.4: the error number %d, by %s: %v", i, who, told)
				}
			}
		}
		s := newScope(th)
		s.Go(th, answers(aid.Awkward{io.EOF}))
		if a, is := s.Wait(th).(*fault.At); !is || a.Number != 1 || a.Err.(aid.Awkward)[0] != io.EOF {
			t.Errorf("P19.2: an error that is not to be asked, by %s", who)
		}
	})
}

// TestPanics: what a function panics with is carried to each Wait, and comes out nowhere.
func TestPanics(t *testing.T) {
	both(t, func(who string, th *gate.Thread) {
		for what, row := range aid.Falls() {
			s := newScope(th)
			n, e := s.Go(th, func(*gate.Thread, *token.Token) error { row.Do(); return io.EOF })
			first := s.Wait(th)
			for range 3 {
				told := s.Wait(th)
				p, is := errors.Unwrap(told).(*fault.Panicked)
				if !is || n != 1 || e != api.OK || !tells(told, 1, errors.Unwrap(first)) || row.With != nil && p.Value != row.With || p.Value == nil || s.Token().Reason(th) != scope.Failed {
					t.Fatalf("P19.2: %s, by %s: %#v", what, who, told)
				}
				within, _ := row.With.(error)
				if !errors.Is(told, api.ErrPanic) || errors.Is(told, within) || fault.Class(told) != api.ErrPanic || told.Error() != "1: panic" {
					t.Errorf("P19.2: %s, by %s: found is %d", what, who, fault.Class(told))
				}
			}
		}
	})
}

// TestRecovers: what a function recovers itself is its own: what counts is how it ends.
func TestRecovers(t *testing.T) {
	both(t, func(who string, th *gate.Thread) {
		s := newScope(th)
		s.Go(th, func(*gate.Thread, *token.Token) (e error) {
			defer func() { _ = recover(); e = nil }()
			panic("x")
		})
		if e := s.Wait(th); e != nil || s.Token().Reason(th) != 0 {
			t.Errorf("P19.2: by %s: %v", who, e)
		}
	})
}

// TestWhatItIsHanded: a thread of its own, of the run, that the accesses and marks are of; free, none; and the scope's token.
func TestWhatItIsHanded(t *testing.T) {
	s := newScope(nil)
	called := make(chan bool, 1)
	s.Go(nil, func(u *gate.Thread, k *token.Token) error {
		called <- u == nil && k == s.Token()
		return nil
	})
	if s.Wait(nil); len(called) != 1 || !<-called {
		t.Error("P19.2: free")
	}
	x := cell.New(0)
	var threads []*gate.Thread
	does := func(u *gate.Thread, k *token.Token) error {
		threads = append(threads, u)
		u.Mark(int64(u.Number()), 10)
		x.Add(u, int64(aid.Digit(k == s.Token()))+1)
		return nil
	}
	r := gate.Run([]int{1, 1, 1, 1, 0, 0, 0, 0}, 99, nil, func(th *gate.Thread) { s.Wait(th) }, func(th *gate.Thread) {
		s = newScope(th)
		threads = append(threads, th)
		s.Go(th, does)
		s.Go(th, does)
	})
	want := "2 load c0: 0; 2 cas c0 0 2: 0 ok; 2 add c1 1: 0; 2 go: 3; 3 mark 1 7; 3 mark 3 10; 1 load c2: 1; 1 load c2: 1; 1 load c3: 0; 2 load c0: 2; 3 add c4 2: 0; 3 mark 1 8; 2 cas c0 2 4: 2 ok; 3 add c0 -2: 4; 2 add c1 1: 1; 2 go: 4; 4 mark 2 7; 4 mark 4 10; 4 add c4 2: 2; 4 mark 2 8; 4 add c0 -2: 2"
	if aid.Texts(r.Log) != want || r.End != api.Over || len(threads) != 3 || threads[0] == threads[1] || threads[1] == threads[2] || slices.ContainsFunc(threads, (*gate.Thread).Live) {
		t.Errorf("P19.2: %s\nnot %s: %v", aid.Texts(r.Log), want, threads)
	}
}

// TestItBeginsThreads: threads that a function begins are no tasks: nobody waits for them, and they do not fail.
func TestItBeginsThreads(t *testing.T) {
	x := cell.New(0)
	s := newScope(nil)
	var told error
	r := gate.Run([]int{0, 0, 0, 0, 0, 0, 0, 0}, 99, func(th *gate.Thread) {
		s.Go(th, func(u *gate.Thread, _ *token.Token) error {
			u.Go(func(v *gate.Thread) { x.Park(v, 0) })
			u.Go(func(v *gate.Thread) { panic("x") })
			return nil
		})
		told = s.Wait(th)
	})
	if told != nil || r.End != api.Dead || aid.Texts(r.Left) != "2 park c-1 0: 0" || !slices.Equal(r.Fell, []int{3}) || s.Token().Reason(nil) != 0 {
		t.Errorf("P19.2, P19.4: %v: %s; left %s, fell %v", told, aid.Texts(r.Log), aid.Texts(r.Left), r.Fell)
	}
}

// stays: what is found of a scope one of whose tasks does not come to its end: nothing is told of it, and who waits sleeps for good.
func stays(s *scope.Scope) (faults string) {
	r := gate.Run(nil, 99, func(t *gate.Thread) { s.Wait(t) })
	if log, left := aid.Texts(r.Log), aid.Texts(r.Left); log != "0 load c0: 2; 0 cas c0 2 3: 2 ok; 0 load c0: 3" || left != "0 park c0 3: 3" || r.End != api.Dead {
		return "who waits behind it does " + log + ", and is left at " + left
	}
	if is := s.Close(nil); is {
		return "it is closed twice"
	}
	return ""
}

// TestStoppedInItsMidst: a function whose thread is stopped, whatever it does about that: nothing more is done, and the task lives on.
func TestStoppedInItsMidst(t *testing.T) {
	x := cell.New(0)
	midsts := aid.Midsts(func(t *gate.Thread) { x.Add(t, 1) })
	midsts["sleeps"] = func(t *gate.Thread) { x.Park(t, 0) }
	for what, f := range midsts {
		for _, e := range []error{nil, io.EOF} {
			s, called := newScope(nil), 0
			r := gate.Run(nil, 4, func(t *gate.Thread) {
				s.Go(t, func(u *gate.Thread, _ *token.Token) error {
					called++
					f(u)
					return e
				})
			})
			if log := aid.Texts(r.Log); log != "0 load c0: 0; 0 cas c0 0 2: 0 ok; 0 add c1 1: 0; 0 go: 1; 1 mark 1 7" || len(r.Left) != 1 || r.Left[0].Thread != 1 || called != 1 || x.Load(nil) != 0 {
				t.Errorf("P19.2: %s: %d are called: %s; left %s", what, called, log, aid.Texts(r.Left))
			}
			if s.Token().Reason(nil) != 0 || stays(s) != "" {
				t.Errorf("P19.2: %s: the reason is %d; %s", what, s.Token().Reason(nil), stays(s))
			}
		}
	}
}

// TestStoppedBehindIt: a task that is stopped behind its function: who waits is not told; what it did ahead is done.
func TestStoppedBehindIt(t *testing.T) {
	for turns, row := range []struct {
		log    string
		left   string
		reason int64
	}{
		{"", "1 cas c-1 0 1: 0", 0}, {"; 1 cas c2 0 1: 0 ok", "1 cas c-1 0 2: 0", 0}, {"; 1 cas c2 0 1: 0 ok; 1 cas c3 0 2: 0 ok", "1 swap c-1 -1: 0", 2}, {"; 1 cas c2 0 1: 0 ok; 1 cas c3 0 2: 0 ok; 1 swap c4 -1: 0", "1 add c0 -2: 2", 2},
	} {
		s := newScope(nil)
		r := gate.Run(nil, 4+turns, func(t *gate.Thread) { s.Go(t, answers(io.EOF)) })
		want := "0 load c0: 0; 0 cas c0 0 2: 0 ok; 0 add c1 1: 0; 0 go: 1; 1 mark 1 7; 1 mark 1 8" + row.log
		left := aid.Texts(r.Left)
		if left == row.left+" no" {
			left = row.left
		}
		if log := aid.Texts(r.Log); log != want || left != row.left || s.Token().Reason(nil) != row.reason {
			t.Errorf("P19.2: %d turns: %s\nnot %s: left %s, not %s", turns, log, want, left, row.left)
		}
		if f := stays(s); f != "" {
			t.Errorf("P19.2: %d turns: %s", turns, f)
		}
	}
}

// fallsBy: functions that do not come to their ends, but leave by the gate's own panic, or end their goroutine; nobody is stopped.
func fallsBy() map[string]function {
	_, own := aid.Stopped()
	return map[string]function{
		"panics with it":   panics(own),
		"behind another":   func(*gate.Thread, *token.Token) error { defer panic(own); panic("x") },
		"behind an answer": func(*gate.Thread, *token.Token) error { defer panic(own); return io.EOF },
		"ends its goroutine": func(*gate.Thread, *token.Token) error {
			runtime.Goexit()
			return io.EOF
		},
	}
}

// TestGatesOwn: kept from another run, the gate's own panic is not carried: nothing is done behind it, the task lives on, and nobody else is bothered.
func TestGatesOwn(t *testing.T) {
	defer inTime()()
	for what, f := range fallsBy() {
		s := newScope(nil)
		r := gate.Run(nil, 99, func(t *gate.Thread) { s.Go(t, f) })
		if log, fell := aid.Texts(r.Log), what != "ends its goroutine"; log != "0 load c0: 0; 0 cas c0 0 2: 0 ok; 0 add c1 1: 0; 0 go: 1; 1 mark 1 7" || r.End != api.Over || slices.Equal(r.Fell, []int{1}) != fell || s.Token().Reason(nil) != 0 {
			t.Errorf("P19.2: one that %s: %s; fell %v", what, log, r.Fell)
		}
		if f := stays(s); f != "" {
			t.Errorf("P19.2: one that %s: %s", what, f)
		}
		synctest.Test(t, func(t *testing.T) {
			s = newScope(nil)
			n, e := s.Go(nil, f)
			synctest.Wait()
			was := s.Token().Reason(nil)
			m, q := s.Go(nil, answers(io.EOF)) // it is the first to fail
			synctest.Wait()
			if n != 1 || e != api.OK || m != 2 || q != api.OK || was != 0 || s.Token().Reason(nil) != scope.Failed {
				t.Errorf("P19.2: one that %s, free: %d %d, %d %d; the reason was %d, then %d", what, n, e, m, q, was, s.Token().Reason(nil))
			}
		})
		if f := stays(s); f != "" {
			t.Errorf("P19.2: one that %s, free: %s", what, f)
		}
	}
}

// TestTheTokensFunctions: a failing task calls them, with its thread; where one panics, nothing behind it is done: the task falls, and lives on.
func TestTheTokensFunctions(t *testing.T) {
	defer inTime()()
	var by []int
	made := func(x any) *scope.Scope {
		by = nil
		s := newScope(nil)
		for i := range 3 {
			s.Token().OnCancel(nil, func(u *gate.Thread, r int64) {
				if by = append(by, u.Number(), int(r)); i == 1 && x != nil {
					panic(x)
				}
			})
		}
		return s
	}
	const log = "0 load c0: 0; 0 cas c0 0 2: 0 ok; 0 add c1 1: 0; 0 go: 1; 1 mark 1 7; 1 mark 1 8; 1 cas c2 0 1: 0 ok; 1 cas c3 0 2: 0 ok; 1 swap c4 -1: 3"
	_, own := aid.Stopped()
	for _, x := range []any{nil, "x", own} {
		s := made(x)
		r := gate.Run(nil, 99, func(t *gate.Thread) { s.Go(t, answers(io.EOF)) })
		want, all, fell := log+"; 1 add c0 -2: 2", []int{1, 2, 1, 2, 1, 2}, []int(nil)
		if x != nil {
			want, all, fell = log, all[:4], []int{1}
		}
		if aid.Texts(r.Log) != want || !slices.Equal(by, all) || !slices.Equal(r.Fell, fell) || r.End != api.Over {
			t.Errorf("P19.2: %v: %s; they are called with %v; fell %v", x, aid.Texts(r.Log), by, r.Fell)
		}
		if x != nil && stays(s) != "" || x == nil && !tells(s.Wait(nil), 1, io.EOF) {
			t.Errorf("P19.2: %v: behind it", x)
		}
		synctest.Test(t, func(t *testing.T) {
			s = made(x)
			s.Go(nil, answers(io.EOF))
			if synctest.Wait(); x == nil && !tells(s.Wait(nil), 1, io.EOF) {
				t.Errorf("P19.2: %v, free: behind it", x)
			}
		})
		for i := range all {
			all[i] = []int{-1, 2}[i%2]
		}
		if !slices.Equal(by, all) || s.Token().Reason(nil) != 2 || x != nil && stays(s) != "" {
			t.Errorf("P19.2: %v, free: they are called with %v", x, by)
		}
	}
}

// TestScopesInScopes: a task's own scope, below the one that it is of: who fails cancels those below; who waits hands on what he is told.
func TestScopesInScopes(t *testing.T) {
	both(t, func(who string, th *gate.Thread) {
		var below func(depth int) function
		below = func(depth int) function {
			return func(u *gate.Thread, k *token.Token) error {
				if depth == 0 {
					return &fault.Failed{Code: 7}
				}
				s, e := scope.New(u, k)
				if e != api.OK {
					return e
				}
				s.Go(u, func(u *gate.Thread, k *token.Token) error { k.Wait(u); return nil })
				s.Go(u, below(depth-1))
				return s.Wait(u)
			}
		}
		s := newScope(th)
		s.Go(th, below(4))
		e := s.Wait(th)
		if e == nil || e.Error() != "1: 2: 2: 2: 2: failed 7" || fault.Class(e) != api.ErrFailed || !slices.Equal(fault.Numbers(e), []int{1, 2, 2, 2, 2}) {
			t.Errorf("P19.4: by %s: %v", who, e)
		}
		if th == nil {
			s = newScope(nil)
			s.Go(nil, below(65)) // the last one is too deep
			if e := s.Wait(nil); fault.Class(e) != api.ErrDeep || len(fault.Numbers(e)) != 65 {
				t.Errorf("P19.1, P19.4: %v", e)
			}
		}
	})
}

// TestTasksInTasks: each begins the next one, as many as there may be; the last one ends, fails, or panics.
func TestTasksInTasks(t *testing.T) {
	defer inTime()()
	for what, end := range map[string]function{"0": nothing, "4096:_EOF": answers(io.EOF), "4096:_panic": panics("x")} {
		s, last := newScope(nil), make(chan int, 1)
		var next func(n int) function
		next = func(n int) function {
			return func(u *gate.Thread, k *token.Token) error {
				if n == api.MaxTasks {
					last <- n
					return end(u, k)
				}
				if m, e := s.Go(u, next(n+1)); m != n+1 || e != api.OK {
					t.Errorf("P19.2: the task %d: %d %d", n+1, m, e)
				}
				return nil
			}
		}
		s.Go(nil, next(1))
		<-last // who waits ahead of that closes the scope
		if e := aid.Told(0, s.Wait(nil)).String(); e != what {
			t.Errorf("P19.4: %s, not %s", e, what)
		}
	}
}
