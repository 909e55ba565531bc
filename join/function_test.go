package join_test

import (
	"errors"
	"io"
	"runtime"
	"slices"
	"strings"
	"testing"

	"treadle/aid"
	"treadle/api"
	"treadle/cell"
	"treadle/fault"
	"treadle/future"
	"treadle/gate"
	"treadle/join"
)

// What is done when a joint future is filled: by whoever fills the last that it hangs on, or hangs it on that.

// TestDeeds: what functions of joint futures do, by each thread that does not live, and by one that does.
func TestDeeds(t *testing.T) {
	by(t, func(who string, th *gate.Thread) {
		for _, row := range []struct {
			what  string
			calls []call
			want  string
		}{
			{"it asks its own", []call{alls(0, 1), thens(3, busy("A", asks(3), awaits(3), peeks(0), peeks(1))), completes(1, 6, nil), completes(0, 5, nil)}, "all(0,1):#3 then3:ok complete1:yes A:2( values3:[5,6] await3:2 peek0:5 peek1:6 ) complete0:yes"},
			{"it asks its own, that has an error", []call{alls(0, 1), thens(3, busy("A", asks(3), awaits(3))), completes(1, 6, failed(3)), completes(0, 5, nil)}, "all(0,1):#3 then3:ok complete1:yes A:1:_failed_3( values3:1:_failed_3 await3:1:_failed_3 ) complete0:yes"},
			{"it completes its own", []call{somes(0, 1), thens(3, busy("A", completes(3, 9, nil), claims(3))), completes(1, 6, nil), awaits(3)}, "any(0,1):#3 then3:ok A:6( complete3:no claim3:no ) complete1:yes await3:6"},
			{"it completes one that it hangs on", []call{somes(0, 1), thens(3, busy("A", completes(1, 9, io.EOF), completes(0, 9, nil))), completes(0, 6, nil), awaits(3), awaits(1)}, "any(0,1):#3 then3:ok A:6( complete1:yes complete0:no ) complete0:yes await3:6 await1:EOF"},
			{"it completes one that its own hangs on still", []call{quorums(1, 0, 1, 2), thens(3, busy("A", completes(2, 9, nil), completes(1, 9, io.EOF))), completes(0, 6, nil), awaits(3)}, "quorum1(0,1,2):#3 then3:ok A:1( complete2:yes complete1:yes ) complete0:yes await3:1"},
			{"it makes others of its own, and of what is filled meanwhile", []call{alls(0), thens(3, busy("A", alls(3, 0), asks(4), somes(0, 1), awaits(5), quorums(2, 3, 1))), completes(0, 5, nil), completes(1, 6, nil), awaits(6)}, "all(0):#3 then3:ok A:1( all(3,0):#4 values4:[1,5] any(0,1):#5 await5:5 quorum2(3,1):#6 ) complete0:yes complete1:yes await6:errno:2"},
			{"functions of what is made of what is made of others", []call{alls(0, 1), somes(3, 2), quorums(2, 3, 4), thens(3, busy("A", peeks(4), peeks(5))), thens(4, busy("B", peeks(5))), thens(5, quiet("C")), completes(0, 5, nil), completes(1, 6, nil)}, "all(0,1):#3 any(3,2):#4 quorum2(3,4):#5 then3:ok then4:ok then5:ok complete0:yes B:2( peek5:none ) C:2( ) A:2( peek4:2 peek5:2 ) complete1:yes"},
			{"one several times: its functions are called one behind the other", []call{quorums(2, 0, 0, 0), thens(3, busy("A", peeks(0), completes(1, 3, nil))), thens(0, quiet("B")), alls(0, 1, 0), completes(0, 5, nil), asks(4)}, "quorum2(0,0,0):#3 then3:ok then0:ok all(0,1,0):#4 A:2( peek0:5 complete1:yes ) B:5( ) complete0:yes values4:[5,3,5]"},
			{"it panics: what stands behind it is not done, and what is filled stays so", []call{alls(0), thens(3, fallen("A")), thens(3, quiet("never")), thens(0, quiet("never")), completes(0, 5, nil), asks(3), thens(3, quiet("B"))}, "all(0):#3 then3:ok then3:ok then0:ok A:1( complete0:fell:A values3:[5] B:1( ) then3:ok"},
			{"it panics: others that stand behind are not told", []call{alls(0), thens(3, fallen("A")), somes(0), quorums(1, 0), completes(0, 5, nil), peeks(4), peeks(5), peeks(0)}, "all(0):#3 then3:ok any(0):#4 quorum1(0):#5 A:1( complete0:fell:A peek4:none peek5:none peek0:5"},
			{"another one's function panics ahead of it: it is not told", []call{thens(0, fallen("A")), alls(0, 1), completes(0, 5, nil), completes(1, 6, nil), peeks(3)}, "then0:ok all(0,1):#3 A:5( complete0:fell:A complete1:yes peek3:none"},
		} {
			w := ours(3)
			w.awake = true
			if got := w.makes(th, row.calls...); got != row.want || len(w.follows(true)) != 0 {
				t.Errorf("P16.1 to P16.4: %s, by %s:\n got %s\nwant %s: %v", row.what, who, got, row.want, w.follows(true))
			}
		}
	})
}

// TestItIsHandedTheThread: just the one that the Complete of the last one was handed, and its accesses are that thread's, those of the joint itself, too.
func TestItIsHandedTheThread(t *testing.T) {
	for who, th := range aid.NotLiving() {
		for what, joins := range joins() {
			l, called := three(), 0
			g, _ := joins(nil, l...)
			g.Then(nil, func(u *gate.Thread, _ int64, _ error) {
				if called++; u != th {
					t.Errorf("%s, by %s: it is handed another", what, who)
				}
			})
			for _, x := range l {
				x.Complete(th, 5, nil)
			}
			if called != 1 {
				t.Errorf("%s, by %s: %d are called", what, who, called)
			}
		}
	}
	for what, want := range map[string]string{
		"All":           "0 add c2 -1: 3; 1 add c2 -1: 2; 2 add c2 -1: 1; 2 cas c7 0 1: 0 ok; 2 store c7 2: 1; 2 swap c8 -1: 1; 2 add c9 7: 0; 2 mark 3 10",
		"Any":           "0 cas c2 0 1: 0 ok; 0 store c2 2: 1; 0 swap c3 -1: 1; 0 add c4 7: 0; 0 mark 5 10; 1 cas c2 0 1: 2 no; 2 cas c2 0 1: 2 no",
		"Quorum of 1":   "0 add c2 1: 0; 0 cas c3 0 1: 0 ok; 0 store c3 2: 1; 0 swap c4 -1: 1; 0 add c5 7: 0; 0 mark 1 10; 1 add c2 1: 1; 2 add c2 1: 2",
		"Quorum of all": "0 add c2 1: 0; 1 add c2 1: 1; 2 add c2 1: 2; 2 cas c7 0 1: 0 ok; 2 store c7 2: 1; 2 swap c8 -1: 1; 2 add c9 7: 0; 2 mark 3 10",
	} {
		l, c := three(), cell.New(0)
		g, _ := joins()[what](nil, l...)
		g.Then(nil, func(u *gate.Thread, v int64, _ error) {
			c.Add(u, 7)
			u.Mark(v, 10)
		})
		r := gate.Run(aid.Goes([2]int{0, 99}), 99, func(th *gate.Thread) { l[0].Complete(th, 5, nil) }, func(th *gate.Thread) { l[1].Complete(th, 5, nil) }, func(th *gate.Thread) { l[2].Complete(th, 5, nil) })
		var rest []api.Access
		for _, a := range r.Log { // all but the three that each Complete of the others begins with
			if first := slices.IndexFunc(r.Log, func(b api.Access) bool { return b.Thread == a.Thread }); a.Op == api.OpMark || !slices.ContainsFunc(r.Log[first:first+3], func(b api.Access) bool { return b == a }) {
				rest = append(rest, a)
			}
		}
		if aid.Texts(rest) != want || r.End != api.Over {
			t.Errorf("%s: %s\nnot %s", what, aid.Texts(rest), want)
		}
	}
}

// TestItBeginsThreads: a function of a joint future may begin a thread, which finds that filled; it sleeps for another one.
func TestItBeginsThreads(t *testing.T) {
	w := ours(2, alls(0))
	got := ""
	w.all[2].Then(nil, func(t *gate.Thread, _ int64, _ error) {
		t.Go(func(t *gate.Thread) { got = w.makes(t, asks(2), alls(1, 2), asks(3)) })
	})
	r := gate.Run([]int{0, 0, 0, 0, 0, 0, 0, 0, 1, 1, 1, 1, 1, 1, 1, 1}, api.MaxTurns, func(t *gate.Thread) { w.makes(t, completes(0, 2, nil), completes(1, 3, nil)) })
	if want := "complete0:yes values2:[2] all(1,2):#3 values3:[3,1]"; got != want || r.End != api.Over || len(w.follows(true)) != 0 {
		t.Errorf("P16.1: %s, not %s: %+v", got, want, r)
	}
}

// TestWhatComesOut: a function's own panic, with the same value, out of the Complete of what its future hangs on; nothing behind it is done.
func TestWhatComesOut(t *testing.T) {
	_, own := aid.Stopped()
	falls := aid.Falls()
	falls["the gate's own, of another thread"] = aid.Fall{Do: func() { panic(own) }, With: own}
	for what, row := range falls {
		by(t, func(who string, th *gate.Thread) {
			for kind, joins := range joins() {
				l, called := futures{future.New()}, 0
				g, _ := joins(th, l...)
				g.Then(th, func(*gate.Thread, int64, error) { row.Do(); called++ })
				g.Then(th, func(*gate.Thread, int64, error) { called++ })
				never, _ := joins(th, l...)
				out := aid.Caught(func() { l[0].Complete(th, 5, nil) })
				_, e, done := g.Peek(th)
				if _, _, also := never.Peek(th); out == nil || row.With != nil && out != row.With || called != 0 || e != nil || !done || also {
					t.Errorf("%s: %s, by %s: %v comes out; %d are called; %v %v %v", kind, what, who, out, called, e, done, also)
				}
				var none *runtime.PanicNilError
				if e, is := out.(error); what == "nil" && (!is || !errors.As(e, &none)) {
					t.Errorf("%s: nil, by %s: %v comes out", kind, who, out)
				}
			}
		})
	}
}

// TestExits: a function that ends its goroutine does not come back, either.
func TestExits(t *testing.T) {
	for what, joins := range joins() {
		l, called := futures{future.New()}, 0
		g, _ := joins(nil, l...)
		g.Then(nil, func(*gate.Thread, int64, error) { runtime.Goexit() })
		g.Then(nil, func(*gate.Thread, int64, error) { called++ })
		aid.Beside(1, func(int) {
			l[0].Complete(nil, 5, nil)
			t.Errorf("%s: it comes back", what)
		})
		if _, e, done := g.Peek(nil); e != nil || !done || called != 0 || l[0].Complete(nil, 6, nil) {
			t.Errorf("%s: %v %v; %d are called", what, e, done, called)
		}
	}
}

// TestStoppedInItsMidst: a function whose thread is stopped, whatever it does about that: what comes out of it comes out of the Complete of what its future hangs on, which is filled.
func TestStoppedInItsMidst(t *testing.T) {
	x := cell.New(0)
	for what, f := range aid.Midsts(func(t *gate.Thread) { x.Add(t, 1) }) {
		for kind, joins := range joins() {
			y, called := future.New(), 0
			g, _ := joins(nil, y)
			g.Then(nil, func(t *gate.Thread, _ int64, _ error) { f(t) })
			g.Then(nil, func(*gate.Thread, int64, error) { called++ })
			turns := 6 + aid.Digit(kind != "Any")
			var out any
			r := gate.Run(nil, turns, func(t *gate.Thread) { out = aid.Caught(func() { y.Complete(t, 5, nil) }) })
			if comes := what == "recovers, and answers"; (out == nil) != comes || called != aid.Digit(comes) || r.End != api.Cut || r.Turns != turns || !strings.Contains(what, " panic") && !comes && !gate.Is(out) {
				t.Errorf("%s: %s: %v comes out; %d are called: %+v", kind, what, out, called, r)
			}
			if _, e, done := g.Peek(nil); e != nil || !done || x.Load(nil) != 0 {
				t.Errorf("%s: %s: then %v %v", kind, what, e, done)
			}
		}
	}
}

// chain: a future, and so many others, each made of the one ahead of it.
func chain(t *testing.T, parts int, joins func(t *gate.Thread, l ...*future.Future) (*future.Future, api.Errno)) futures {
	t.Helper()
	all := futures{future.New()}
	for i := range parts {
		g, e := joins(nil, all[i])
		if e != api.OK {
			t.Fatalf("R1: the part %d: %d", i, e)
		}
		all = append(all, g)
	}
	return all
}

// TestNested: futures that are made of one another, to the document's bound; the first one has a value, or an error.
func TestNested(t *testing.T) {
	const parts = 1 << 16
	for what, joins := range joins() {
		quorum := strings.HasPrefix(what, "Quorum")
		for _, e := range []error{nil, io.EOF} {
			all := chain(t, parts, joins)
			all[0].Complete(nil, 7, e)
			want := int64(1)
			if what == "Any" {
				want = 7
			}
			if e != nil {
				want = 0
			}
			for i, g := range all[1:] {
				v, err := g.Await(nil)
				if v != want || (err == nil) != (e == nil) || e != nil && !quorum && i < 100 && !slices.Equal(fault.Numbers(err), make([]int, i+1)) {
					t.Fatalf("%s: the part %d: %d; an error: %v", what, i, v, err != nil)
				}
			}
			_, err := all[parts].Await(nil)
			if carries := e != nil && !quorum; errors.Is(err, io.EOF) != carries || len(fault.Numbers(err)) != parts*aid.Digit(carries) {
				t.Errorf("R1: %s: the last one has %d numbers", what, len(fault.Numbers(err)))
			}
		}
		all := chain(t, parts, joins)
		all[parts].Then(nil, func(*gate.Thread, int64, error) { panic("x") })
		if out := aid.Caught(func() { all[0].Complete(nil, 7, nil) }); out != "x" {
			t.Errorf("R1: %s: %v comes out", what, out)
		}
	}
}

// TestNestedStopped: where the thread is stopped in the midst of joint futures in one another, those are filled that it came to.
func TestNestedStopped(t *testing.T) {
	for what, joins := range joins() {
		each := 3 + aid.Digit(what != "Any") // so many accesses a part, the first one's alone 3
		for _, row := range [][2]int{{16, 0}, {16, 5}, {16, 6}, {16, 7}, {16, 40}, {1 << 14, 3<<14 - 9}} {
			all := chain(t, row[0], joins)
			var out any
			r := gate.Run(nil, row[1], func(t *gate.Thread) { out = aid.Caught(func() { all[0].Complete(t, 5, nil) }) })
			filled := 0
			for _, x := range all {
				_, _, done := x.Peek(nil)
				filled += aid.Digit(done)
			}
			if want := (row[1] + each - 2) / each; !gate.Is(out) || filled != want || r.Turns != row[1] {
				t.Errorf("R1: %s: %d turns: %v comes out; %d are filled, not %d", what, row[1], out, filled, want)
			}
		}
	}
}

// TestNestedByCalls: a function of each part makes the next one, in the midst of all those ahead of it.
func TestNestedByCalls(t *testing.T) {
	const parts = 1 << 15
	all, made := futures{future.New()}, 0
	var next func(u *gate.Thread, v int64, e error)
	next = func(u *gate.Thread, v int64, e error) {
		if made++; made < parts {
			j, _ := join.All(u, all...)
			j.Future().Then(u, next)
		}
	}
	all[0].Then(nil, next)
	all[0].Complete(nil, 3, nil)
	if made != parts {
		t.Errorf("R1: %d", made)
	}
}
