package scope_test

import (
	"io"
	"runtime"
	"testing"
	"weak"

	"treadle/aid"
	"treadle/api"
	"treadle/cell"
	"treadle/gate"
	"treadle/scope"
	"treadle/token"
)

// What is whose: a call's, a task's, a thread's, a scope's.

// TestNotLiving: a call that is handed a thread that does not live makes no access, and no mark, of the thread in whose goroutine it is, nor do the tasks that it begins; but by nil no task is begun, and a number is used up.
func TestNotLiving(t *testing.T) {
	defer inTime()()
	for what, th := range aid.NotLiving() {
		x := cell.New(0)
		r := gate.Run(nil, 9, func(u *gate.Thread) {
			s, e := scope.New(th, nil)
			below, q := scope.New(th, s.Token())
			want, n := api.ErrMany, 0
			if th == nil {
				want, n = api.OK, 1
			}
			a, ea := s.Go(th, func(u *gate.Thread, _ *token.Token) error { u.Mark(1, 10); x.Add(u, 1); return io.EOF })
			b, eb := s.Go(nil, func(*gate.Thread, *token.Token) error { x.Add(nil, 10); return nil })
			if e != api.OK || q != api.OK || a != n || ea != want || b != 2 || eb != api.OK {
				t.Errorf("P19.1, P19.2: %s: %d %d: %d %d, %d %d", what, e, q, a, ea, b, eb)
			}
			is, again, told := s.Close(th), s.Close(th), s.Wait(th)
			if c, ec := s.Go(th, nothing); !is || again || c != 0 || ec != api.ErrClosed || tells(told, 1, io.EOF) != (th == nil) || (told != nil) != (th == nil) || x.Load(nil) != int64(10+n) {
				t.Errorf("P19.2 to P19.4: %s: %v %v %v: %d %d; %d", what, is, again, told, c, ec, x.Load(nil))
			}
			if r := below.Token().Reason(nil); r != 2*int64(n) {
				t.Errorf("P19.2: %s: the reason below is %d", what, r)
			}
		})
		if len(r.Log) != 0 || r.End != api.Over || len(r.Fell) != 0 {
			t.Errorf("P19.1 to P19.4: %s: %+v", what, r)
		}
	}
}

// TestEachIsItsOwn: what one scope is, another is not, be it below the same token, or below the other one's.
func TestEachIsItsOwn(t *testing.T) {
	w := ours(1, opens(0), opens(0), opens(ofScope))
	_, got := w.one(begins(0, fine("a")), begins(1, fine("b")), begins(2, fine("c")), begins(1, failed("d", 5)), closes(0), begins(0, fine("z")), begins(2, fine("e")), waits(1), waits(0), reasons(0), reasons(ofScope), reasons(ofScope+1), reasons(ofScope+2),
		begins(2, failed("f", 6)), waits(2), reasons(ofScope), reasons(ofScope+2), begins(1, fine("z")))
	want := "a( )a go0:1 b( )b go1:1 c( )c go2:1 d( )d go1:2 close0:yes go0:ErrClosed e( )e go2:2 wait1:2:_failed_5 wait0:0 reason0:0 reasons0:0 reasons1:2 reasons2:0 f( )f go2:3 wait2:3:_failed_6 reasons0:0 reasons2:2 go1:ErrClosed"
	if got != want {
		t.Errorf("P19.2 to P19.4: %s\nnot %s", got, want)
	}
}

// TestFromOutside: the token is one like others: whoever has it may cancel it, which closes and ends nothing; who fails behind that is told all the same.
func TestFromOutside(t *testing.T) {
	both(t, func(who string, th *gate.Thread) {
		s := newScope(th)
		if !s.Token().Cancel(th, 9) {
			t.Errorf("P19.1: by %s", who)
		}
		n, e := s.Go(th, func(u *gate.Thread, k *token.Token) error {
			if k.Reason(u) != 9 {
				t.Errorf("P19.2: by %s", who)
			}
			return io.EOF
		})
		if told := s.Wait(th); n != 1 || e != api.OK || !tells(told, 1, io.EOF) || s.Token().Reason(th) != 9 || s.Token().Cancel(th, 3) {
			t.Errorf("P19.2: by %s: %d %d: %v", who, n, e, told)
		}
	})
}

// value: one that holds memory.
type value [100]int

// holds: an error that holds memory.
type holds struct{ value }

func (*holds) Error() string { return "holds" }

func isKept[T any](p weak.Pointer[T]) bool {
	for range 9 {
		runtime.GC()
	}
	return p.Value() != nil
}

// left: a scope, and what was there when one Go of it was made.
type left struct {
	s   *scope.Scope
	f   weak.Pointer[value] // what the function has
	e   weak.Pointer[holds] // its error
	by  weak.Pointer[gate.Thread]
	own weak.Pointer[gate.Thread] // the task's thread
	k   weak.Pointer[token.Token] // the token above
}

// leaves: in a run of so many turns; free, if they are below 0.
func leaves(first func(s *scope.Scope), turns int) (l left) {
	k := token.New()
	l.k = weak.Make(k)
	l.s, _ = scope.New(nil, k)
	first(l.s)
	v, e := new(value), new(holds)
	l.f, l.e = weak.Make(v), weak.Make(e)
	f := func(u *gate.Thread, _ *token.Token) error {
		if u != nil {
			l.own = weak.Make(u)
		}
		v[0]++
		return e
	}
	if turns < 0 {
		l.s.Go(nil, f)
		l.s.Wait(nil)
		return l
	}
	gate.Run(nil, turns, func(t *gate.Thread) {
		l.by = weak.Make(t)
		l.s.Go(t, f)
	})
	return l
}

// TestNothingIsKept: of a task that was refused, has ended, or is stopped, the function is not kept by the scope; nor is an error, but that of the first one that failed; nor are threads, and the token above.
func TestNothingIsKept(t *testing.T) {
	none := func(*scope.Scope) {}
	shuts := func(s *scope.Scope) { s.Close(nil) }
	fails := func(s *scope.Scope) { gate.Run(nil, 99, func(t *gate.Thread) { s.Go(t, answers(io.EOF)) }) }
	uses := func(s *scope.Scope) {
		for range api.MaxTasks {
			s.Go(&gate.Thread{}, nothing)
		}
	}
	for what, row := range map[string]struct {
		first func(s *scope.Scope)
		turns int
		kept  bool // the error
	}{
		"free": {none, -1, true}, "free, and not the first to fail": {fails, -1, false}, "free, and refused": {shuts, -1, false}, "free, and no number is left": {uses, -1, false},
		"by a thread": {none, 99, true}, "by a thread, and not the first to fail": {fails, 99, false}, "refused": {shuts, 99, false}, "no number is left": {uses, 99, false},
		"stopped ahead of its claim": {none, 1, false}, "stopped ahead of its number": {none, 2, false}, "stopped ahead of its beginning": {none, 3, false}, "stopped ahead of its failure": {none, 4, false},
		"stopped ahead of its failure, and not the first": {fails, 4, false}, "stopped ahead of its Cancel": {none, 5, true}, "stopped in its Cancel": {none, 6, true}, "stopped ahead of its end": {none, 7, true},
	} {
		l := leaves(row.first, row.turns)
		if isKept(l.f) || isKept(l.by) || isKept(l.own) || isKept(l.k) {
			t.Errorf("what is kept: %s: the function: %v, the threads: %v %v, the token above: %v", what, isKept(l.f), isKept(l.by), isKept(l.own), isKept(l.k))
		}
		if isKept(l.e) != row.kept {
			t.Errorf("what is kept: %s: the error: %v", what, !row.kept)
		}
		runtime.KeepAlive(l.s)
		if l.s = nil; isKept(l.e) {
			t.Errorf("what is kept: %s: the error, by nobody", what)
		}
	}
}
