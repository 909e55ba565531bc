package scope_test

import (
	"errors"
	"math"
	"strconv"
	"strings"
	"testing"
	"testing/synctest"

	"treadle/aid"
	"treadle/api"
	"treadle/fault"
	"treadle/gate"
	"treadle/scope"
	"treadle/token"
)

// both calls f with no thread, and with one that lives: by those a task can be begun.
func both(t *testing.T, f func(who string, th *gate.Thread)) {
	t.Helper()
	defer inTime()()
	f("nil", nil)
	r := gate.Run(nil, api.MaxTurns, func(th *gate.Thread) { f("one that lives", th) })
	if r.End != api.Over || len(r.Fell) != 0 {
		t.Errorf("R1: one that lives: end %d, fell %v: %s", r.End, r.Fell, aid.Texts(r.Left))
	}
}

// newScope: with a token of its own.
func newScope(t *gate.Thread) *scope.Scope {
	s, _ := scope.New(t, nil)
	return s
}

func answers(e error) function { return func(*gate.Thread, *token.Token) error { return e } }
func panics(x any) function    { return func(*gate.Thread, *token.Token) error { panic(x) } }

func nothing(*gate.Thread, *token.Token) error { return nil }

// TestExamples: the chapter's table.
func TestExamples(t *testing.T) {
	both(t, func(who string, th *gate.Thread) {
		s, e := scope.New(th, nil)
		if err := s.Wait(th); e != api.OK || err != nil {
			t.Errorf("P19.1, P19.4: by %s: %d %v", who, e, err)
		}
		if n, e := s.Go(th, nothing); n != 0 || e != api.ErrClosed || s.Close(th) {
			t.Errorf("P19.2, P19.3: by %s: %d %d", who, n, e)
		}

		s = newScope(th)
		a, ea := s.Go(th, nothing)
		b, eb := s.Go(th, answers(&fault.Failed{Code: 5}))
		if err := s.Wait(th); a != 1 || b != 2 || ea != api.OK || eb != api.OK || err == nil || err.Error() != "2: failed 5" || s.Token().Reason(th) != 2 {
			t.Errorf("P19.2, P19.4: by %s: %d %d: %v", who, a, b, err)
		}

		s = newScope(th)
		s.Go(th, panics(1))
		if err := s.Wait(th); err == nil || err.Error() != "1: panic" || !errors.Is(err, api.ErrPanic) {
			t.Errorf("P19.2: by %s: %v", who, err)
		}

		k := token.New()
		k.Cancel(th, 9)
		s, e = scope.New(th, k)
		r, told := s.Token().Reason(th), int64(0)
		n, _ := s.Go(th, func(u *gate.Thread, k *token.Token) error { told = k.Wait(u); return nil })
		if err := s.Wait(th); e != api.OK || r != 9 || n != 1 || told != 9 || err != nil {
			t.Errorf("P19.1: by %s: %d %d %d: %v", who, r, n, told, err)
		}

		if n, e := newScope(th).Go(th, nil); n != 0 || e != api.ErrArg {
			t.Errorf("P19.2: by %s: %d %d", who, n, e)
		}
		s = nil
		if n, e := s.Go(th, nothing); n != 0 || e != api.ErrNil || s.Wait(th) != error(api.ErrNil) {
			t.Errorf("P19.2, P19.4: by %s: %d %d", who, n, e)
		}
	})
	if scope.Failed != 2 {
		t.Errorf("Failed is %d", scope.Failed)
	}
}

// The accesses of a Go that is not forestalled, of the scope's first task, up to where that marks its end.
const begun = "0 load c0: 0; 0 cas c0 0 2: 0 ok; 0 add c1 1: 0; 0 go: 1; 1 mark 1 7; "

// TestSteps: of each call, where nobody else goes between them but the task that it begins.
func TestSteps(t *testing.T) {
	ended := []call{opens(-1), waits(0)}
	later := []call{opens(-1), begins(0, fine("a")), begins(0, failed("b", 5)), waits(0)}
	for _, row := range []struct {
		first []call
		c     call
		log   string
		told  string
	}{
		{nil, opens(-1), "", "new-1:#0"},
		{nil, opens(-2), "", "new-2:ErrNil"},
		{nil, opens(0), "0 load c0: 0; 0 add c1 1: 0; 0 cas c0 0 1: 0 ok", "new0:#0"},
		{[]call{cancels(0, 9)}, opens(0), "0 load c0: -1; 0 load c1: 9; 0 store c2 9: 0; 0 swap c3 -1: 0", "new0:#0"},
		{usual(), opens(ofScope), "0 load c0: 0; 0 add c1 1: 0; 0 cas c0 0 1: 0 ok", "news0:#1"},

		{usual(), begins(0, nil), "", "go0:ErrArg"},
		{usual(), begins(-1, fine("a")), "", "go-1:ErrNil"},
		{usual(), begins(-1, nil), "", "go-1:ErrNil"},
		{usual(), begins(-2, nil), "", "go-2:ErrNil"},
		{ended, begins(0, nil), "", "go0:ErrArg"},
		{ended, begins(0, fine("a")), "0 load c0: 1", "go0:ErrClosed"},
		{[]call{opens(-1), closes(0)}, begins(0, fine("a")), "0 load c0: 1", "go0:ErrClosed"},
		{usual(), begins(0, fine("a")), begun + "1 mark 1 8; 1 add c0 -2: 2", "a( )a go0:1"},
		{usual(), begins(0, fine("a", adds())), begun + "1 add c2 1: 0; 1 mark 1 8; 1 add c0 -2: 2", "a( go0:1 add:1 )a"},
		{usual(), begins(0, failed("a", 5)), begun + "1 mark 1 8; 1 cas c2 0 1: 0 ok; 1 cas c3 0 2: 0 ok; 1 swap c4 -1: 0; 1 add c0 -2: 2", "a( )a go0:1"},
		{usual(), begins(0, fallen("a", "x")), begun + "1 mark 1 8; 1 cas c2 0 1: 0 ok; 1 cas c3 0 2: 0 ok; 1 swap c4 -1: 0; 1 add c0 -2: 2", "a( )a go0:1"},
		{usual(), begins(0, fallen("a", nil)), begun + "1 mark 1 8; 1 cas c2 0 1: 0 ok; 1 cas c3 0 2: 0 ok; 1 swap c4 -1: 0; 1 add c0 -2: 2", "a( )a go0:1"},
		{usual(), begins(0, &deed{name: "a", e: (*fault.Failed)(nil)}), begun + "1 mark 1 8; 1 cas c2 0 1: 0 ok; 1 cas c3 0 2: 0 ok; 1 swap c4 -1: 0; 1 add c0 -2: 2", "a( )a go0:1"},
		{usual(), begins(0, &deed{name: "a", e: api.OK}), begun + "1 mark 1 8; 1 cas c2 0 1: 0 ok; 1 cas c3 0 2: 0 ok; 1 swap c4 -1: 0; 1 add c0 -2: 2", "a( )a go0:1"},
		{[]call{opens(-1), cancels(ofScope, 7)}, begins(0, failed("a", 5)), begun + "1 mark 1 8; 1 cas c2 0 1: 0 ok; 1 cas c3 0 2: 7 no; 1 add c0 -2: 2", "a( )a go0:1"},
		{[]call{opens(-1), begins(0, failed("a", 5))}, begins(0, failed("b", 6)), "0 load c0: 0; 0 cas c0 0 2: 0 ok; 0 add c1 1: 1; 0 go: 1; 1 mark 2 7; 1 mark 2 8; 1 cas c2 0 2: 1 no; 1 add c0 -2: 2", "b( )b go0:2"},
		{[]call{opens(-1), onCancels(ofScope, fine("c", adds())), bears(ofScope)}, begins(0, failed("a", 5)), begun + "1 mark 1 8; 1 cas c2 0 1: 0 ok; 1 cas c3 0 2: 0 ok; 1 swap c4 -1: 2; 1 add c5 1: 0; 1 cas c6 0 2: 0 ok; 1 swap c7 -1: 0; 1 add c0 -2: 2", "a( )a go0:1 c(2 add:1 )c"},
		{usual(), begins(0, fine("a", begins(0, fine("b")))), begun + "1 load c0: 2; 1 cas c0 2 4: 2 ok; 1 add c1 1: 1; 1 go: 2; 2 mark 2 7; 2 mark 2 8; 1 mark 1 8; 2 add c0 -2: 4; 1 add c0 -2: 2", "a( go0:1 b( )b go0:2 )a"},
		{usual(), begins(0, fine("a", closes(0), begins(0, fine("b")), closes(0))), begun + "1 load c0: 2; 1 cas c0 2 3: 2 ok; 1 load c0: 3; 1 load c0: 3; 1 mark 1 8; 1 add c0 -2: 3", "a( go0:1 close0:yes go0:ErrClosed close0:no )a"},

		{usual(), closes(0), "0 load c0: 0; 0 cas c0 0 1: 0 ok", "close0:yes"},
		{[]call{opens(-1), closes(0)}, closes(0), "0 load c0: 1", "close0:no"},
		{ended, closes(0), "0 load c0: 1", "close0:no"},
		{usual(), closes(-1), "", "close-1:no"},
		{usual(), closes(-2), "", "close-2:no"},

		{usual(), waits(0), "0 load c0: 0; 0 cas c0 0 1: 0 ok; 0 load c0: 1; 0 load c1: 0", "wait0:0"},
		{[]call{opens(-1), closes(0)}, waits(0), "0 load c0: 1; 0 load c0: 1; 0 load c1: 0", "wait0:0"},
		{ended, waits(0), "0 load c0: 1; 0 load c0: 1; 0 load c1: 0", "wait0:0"},
		{later, waits(0), "0 load c0: 1; 0 load c0: 1; 0 load c1: 2", "wait0:2:_failed_5"},
		{usual(), waits(-1), "", "wait-1:errno:2"},
		{usual(), waits(-2), "", "wait-2:errno:2"},
	} {
		w := ours(1, row.first...)
		report, told := w.one(row.c)
		if log := aid.Texts(report.Log); log != row.log || told != row.told || report.End != api.Over || len(w.follows(report.Log, 1)) != 0 {
			t.Errorf("P19.1 to P19.4: %v behind %v:\n got %s: %s\nwant %s: %s: %v", row.c.text(), texts(row.first), told, log, row.told, row.log, w.follows(report.Log, 1))
		}
	}
}

// TestSleeps: who waits for what nobody ends sleeps at live; of a scope that is not closed, too.
func TestSleeps(t *testing.T) {
	for _, row := range []struct {
		calls []call
		log   string
		left  string
	}{
		{[]call{begins(0, fine("a", sleeps(ofScope))), waits(0)}, begun + "1 load c2: 0; 0 load c0: 2; 0 cas c0 2 3: 2 ok; 0 load c0: 3", "0 park c0 3: 3; 1 park c2 0: 0"},
		{[]call{begins(0, fine("a", waits(0)))}, begun + "1 load c0: 2; 1 cas c0 2 3: 2 ok; 1 load c0: 3", "1 park c0 3: 3"},
		{[]call{begins(0, fallen("a", "x", waits(0))), closes(0), waits(0)}, begun + "1 load c0: 2; 0 load c0: 2; 1 cas c0 2 3: 2 ok; 0 cas c0 2 3: 3 no; 1 load c0: 3; 0 load c0: 3; 0 load c0: 3; 0 load c0: 3", "0 park c0 3: 3; 1 park c0 3: 3"},
	} {
		w := ours(0, usual()...)
		r, _ := w.one(row.calls...)
		if log, left := aid.Texts(r.Log), aid.Texts(r.Left); log != row.log || left != row.left || r.End != api.Dead {
			t.Errorf("P19.4: %v: %s\nnot %s: left %s, not %s", texts(row.calls), log, row.log, left, row.left)
		}
		if r, told := w.one(begins(0, fine("b")), waits(0)); aid.Texts(r.Left) != "0 park c0 3: 3" || told != "go0:ErrClosed" {
			t.Errorf("P19.4: %v: behind it %s: %s", texts(row.calls), told, aid.Texts(r.Left))
		}
	}
}

// TestNew: of no token one of its own; else a child: an error, if there can be none.
func TestNew(t *testing.T) {
	both(t, func(who string, th *gate.Thread) {
		a, b := newScope(th), newScope(th)
		if a.Token() == nil || a.Token() == b.Token() || a.Token() != a.Token() || !a.Token().Cancel(th, 4) || b.Token().Reason(th) != 0 {
			t.Errorf("P19.1: by %s: tokens of their own", who)
		}
		k := token.New()
		a, _ = scope.New(th, k)
		b, _ = scope.New(th, k)
		if a.Token() == k || a.Token() == b.Token() || !a.Token().Cancel(th, 4) || k.Reason(th) != 0 || b.Token().Reason(th) != 0 || !k.Cancel(th, 5) || a.Token().Reason(th) != 4 || b.Token().Reason(th) != 5 {
			t.Errorf("P19.1: by %s: children", who)
		}
		deep := token.New()
		for range api.MaxDepth - 1 {
			deep, _ = deep.Child(th)
		}
		a, e := scope.New(th, deep)
		b, q := scope.New(th, a.Token())
		if a == nil || e != api.OK || b != nil || q != api.ErrDeep {
			t.Errorf("P19.1: by %s: deep ones: %d %d", who, e, q)
		}
		full := token.New()
		for i := range 65 {
			if a, e = scope.New(th, full); (a != nil) != (i < 64) || (e == api.OK) != (i < 64) {
				t.Errorf("P19.1: by %s: the child %d: %d", who, i, e)
			}
		}
		if e != api.ErrFull {
			t.Errorf("P19.1: by %s: %d", who, e)
		}
		for what, none := range map[string]*token.Token{"made by no call": {}, "made by new": new(token.Token)} {
			if a, e := scope.New(th, none); a != nil || e != api.ErrNil {
				t.Errorf("R3: by %s: a token %s: %d", who, what, e)
			}
		}
	})
}

// TestSequences: all short rows of calls of one scope, by a thread; and free, where each Go is given the time that its task takes.
func TestSequences(t *testing.T) {
	defer inTime()()
	calls := []call{begins(0, fine("a", reasons(ofScope))), begins(0, failed("b", 5)), begins(0, fallen("c", "x", cancels(ofScope, 8))), begins(0, nil), closes(0), waits(0), cancels(ofScope, 9)}
	for _, l := range aid.Rows(calls, 4) {
		p := newPair(t, 0, usual())
		r := p.run(t, [][]call{l}, nil, api.MaxTurns)
		if p.ends(t); t.Failed() || r.End != api.Over {
			t.Fatalf("P19.2 to P19.4: by a thread: %v: end %d", texts(l), r.End)
		}
		synctest.Test(t, func(t *testing.T) {
			is, as := newWorld(made, 0), newWorld(worded, 0)
			for _, c := range append(append(usual(), l...), waits(0), reasons(ofScope)) {
				as.makes(nil, c)
				said := is.does(nil, c)
				synctest.Wait()
				is.story.Tells(nil, c.String()+":"+said)
			}
			if got, want := is.story.String(), as.story.String(); got != want || len(is.follows(nil, 1)) != 0 {
				t.Fatalf("P19.2 to P19.4: free: %s\nnot %s: %v", got, want, is.follows(nil, 1))
			}
		})
	}
}

// TestNumbers: they rise by one, whoever is refused meanwhile for another reason; who finds no thread has used his up.
func TestNumbers(t *testing.T) {
	both(t, func(who string, th *gate.Thread) {
		s := newScope(th)
		for i := range 40 {
			_, arg := s.Go(th, nil)
			n, e := s.Go(th, nothing)
			stale := &gate.Thread{}
			m, many := s.Go(stale, nothing)
			if n != 2*i+1 || e != api.OK || m != 0 || many != api.ErrMany || arg != api.ErrArg {
				t.Errorf("P19.2: by %s: %d %d, %d %d", who, n, e, m, many)
			}
		}
		if e := s.Wait(th); e != nil {
			t.Errorf("P19.4: by %s: %v", who, e)
		}
	})
}

// TestNumbersRunOut: there are MaxTasks of them; behind that nobody is begun, and who waits does not wait for those who were refused.
func TestNumbersRunOut(t *testing.T) {
	both(t, func(who string, th *gate.Thread) {
		s := newScope(th)
		called, want := 0, api.MaxTasks
		var all, got, many int
		if th.Live() { // there are not so many threads
			want = api.MaxThreads - 1
		}
		tasks := make([]int, api.MaxTasks+5)
		for i := range tasks {
			n, e := s.Go(th, func(*gate.Thread, *token.Token) error { tasks[i]++; return nil })
			switch {
			case i >= api.MaxTasks && (n != 0 || e != api.ErrFull), i < api.MaxTasks && e == api.OK && n != i+1, e == api.ErrMany && !th.Live():
				t.Fatalf("P19.2: by %s: the Go %d: %d %d", who, i+1, n, e)
			}
			all, got, many = all+1, got+aid.Digit(e == api.OK), many+aid.Digit(e == api.ErrMany)
		}
		if e := s.Wait(th); e != nil {
			t.Errorf("P19.4: by %s: %v", who, e)
		}
		for i, n := range tasks {
			called += n
			if n > 1 || i >= api.MaxTasks && n != 0 {
				t.Fatalf("P19.2: by %s: the task %d is called %d times", who, i+1, n)
			}
		}
		if got != want || called != want || many != api.MaxTasks-want {
			t.Errorf("P19.2: by %s: of %d %d are begun, %d called, %d find no thread", who, all, got, called, many)
		}
		if n, e := s.Go(th, nothing); n != 0 || e != api.ErrClosed {
			t.Errorf("P19.2: by %s: behind it %d %d", who, n, e)
		}
	})
}

// TestTheLastNumbersSteps: of a Go that has the last one, and of one behind it; and where there is no thread, either.
func TestTheLastNumbersSteps(t *testing.T) {
	for _, row := range []struct {
		bodies int
		log    string
	}{
		{1, "0 load c0: 0; 0 cas c0 0 2: 0 ok; 0 add c1 1: 4095; 0 go: 1; 1 mark 4096 7; 1 mark 4096 8; 1 add c0 -2: 2; 0 load c0: 0; 0 cas c0 0 2: 0 ok; 0 add c1 1: 4096; 0 add c0 -2: 2; 0 load c0: 0; 0 cas c0 0 2: 0 ok; 0 add c1 1: 4097; 0 add c0 -2: 2"},
		{api.MaxThreads, "0 load c0: 0; 0 cas c0 0 2: 0 ok; 0 add c1 1: 4095; 0 go: -1; 0 add c0 -2: 2; 0 load c0: 0; 0 cas c0 0 2: 0 ok; 0 add c1 1: 4096; 0 add c0 -2: 2; 0 load c0: 0; 0 cas c0 0 2: 0 ok; 0 add c1 1: 4097; 0 add c0 -2: 2"},
	} {
		s := newScope(nil)
		for range api.MaxTasks - 1 {
			s.Go(&gate.Thread{}, nothing)
		}
		bodies := make([]aid.Body, row.bodies)
		bodies[0] = func(th *gate.Thread) {
			for range 3 {
				s.Go(th, nothing)
			}
		}
		if r := gate.Run(nil, 99, bodies...); aid.Texts(r.Log) != row.log {
			t.Errorf("P19.2: %s\nnot %s", aid.Texts(r.Log), row.log)
		}
	}
}

// TestTheLastFails: the number of the last task, too, is told.
func TestTheLastFails(t *testing.T) {
	both(t, func(who string, th *gate.Thread) {
		s := newScope(th)
		for range api.MaxTasks - 1 {
			s.Go(&gate.Thread{}, nothing)
		}
		n, e := s.Go(th, answers(&fault.Failed{Code: math.MinInt64}))
		if err := s.Wait(th); n != api.MaxTasks || e != api.OK || err == nil || err.Error() != "4096: failed "+strconv.Itoa(math.MinInt64) {
			t.Errorf("P19.4: by %s: %d %d: %v", who, n, e, err)
		}
	})
}

// TestNone: scopes that are none, by threads of every kind: no access, and nothing is told.
func TestNone(t *testing.T) {
	var null *scope.Scope
	asked := func(who string, th *gate.Thread) {
		refused, _ := scope.New(th, noToken)
		for what, s := range map[string]*scope.Scope{"nil": null, "made by no call": {}, "made by new": new(scope.Scope), "refused": refused} {
			for _, f := range []function{nil, nothing, panics("never")} {
				n, e := s.Go(th, f)
				if is := s.Close(th); n != 0 || e != api.ErrNil || is || s.Wait(th) != error(api.ErrNil) || s.Token() != nil {
					t.Errorf("R3: %s, by %s: %d %d %v", what, who, n, e, is)
				}
			}
		}
		if n, e := newScope(nil).Go(th, nil); n != 0 || e != api.ErrArg {
			t.Errorf("P19.2: no function, by %s: %d %d", who, n, e)
		}
	}
	for _, f := range aid.Idle(asked) {
		t.Errorf("R3: %s", f)
	}
}

// TestTokenMakesNoAccess: nor does a New without a token.
func TestTokenMakesNoAccess(t *testing.T) {
	var s *scope.Scope
	r := gate.Run(nil, 9, func(th *gate.Thread) {
		s = newScope(th)
		th.Mark(int64(aid.Digit(s.Token() != nil)), 10)
		s.Token().Reason(th)
	})
	if got, want := aid.Texts(r.Log), "0 mark 1 10; 0 load c0: 0"; got != want {
		t.Errorf("P19.1: %s, not %s", got, want)
	}
	for i := range 4 {
		if s.Token() != s.Token() || strings.Contains(aid.Yes(s.Token() == nil), "yes") {
			t.Errorf("P19.1: the token, %d", i)
		}
		if i == 1 {
			s.Close(nil)
		}
		if i == 2 {
			s.Wait(nil)
		}
	}
}
