package future_test

import (
	"io"
	"math"
	"slices"
	"strconv"
	"strings"
	"testing"

	"treadle/aid"
	"treadle/api"
	"treadle/fault"
	"treadle/future"
	"treadle/gate"
)

// TestExamples: the chapter's table.
func TestExamples(t *testing.T) {
	a, b, failed := quiet("A"), quiet("B"), &fault.Failed{Code: 7}
	by(t, func(who string, th *gate.Thread) {
		for _, row := range []struct {
			first []call
			calls []call
			want  string
		}{
			{nil, []call{peeks(0), thens(0, a), completes(0, 5, nil), thens(0, b), completes(0, 6, nil)}, "peek0:none then0:ok A:5( ) complete0:yes B:5( ) then0:ok complete0:no"},
			{[]call{completes(0, 5, nil)}, []call{awaits(0), claims(0), peeks(0)}, "await0:5 claim0:no peek0:5"},
			{nil, []call{claims(0), completes(0, 1, nil), fills(0, 9, failed), fills(0, 2, nil), awaits(0)}, "claim0:yes complete0:no fill0:yes fill0:no await0:failed_7"},
			{[]call{completes(0, 5, nil)}, []call{alters(0, plus("M", 1)), alters(0, fallen("N")), awaits(1), awaits(2)}, "M:5 map0:#1 N:5 map0:#2 await1:6 await2:panicked:N"},
			{[]call{completes(0, 5, failed)}, []call{alters(0, fallen("M")), awaits(1)}, "map0:#1 await1:failed_7"},
		} {
			w := ours(1, row.first...)
			w.awake = true
			if got := w.makes(th, row.calls...); got != row.want || len(w.follows(true)) != 0 {
				t.Errorf("P14.1 to P14.7: by %s: %v: %s, not %s: %v", who, row.calls, got, row.want, w.follows(true))
			}
		}
		x := future.New()
		x.Complete(th, 5, failed)
		if v, e, done := x.Peek(th); v != 0 || e != error(failed) || !done {
			t.Errorf("P14.6: by %s: %d %v %v", who, v, e, done)
		}
	})
}

// TestSteps: of each call, where nobody else goes between them.
func TestSteps(t *testing.T) {
	a, b := quiet("A"), quiet("B")
	const adds0, tells0 = "0 load c0: 0; 0 add c1 1: 0; 0 cas c0 0 1: 0 ok", "0 cas c0 0 1: 0 ok; 0 store c0 2: 1; 0 swap c1 -1: 0"
	done := []call{completes(0, 5, nil)}
	fell := []call{completes(0, 5, io.EOF)}
	full := crowd(64, 0)
	for _, row := range []struct {
		first []call
		calls []call
		log   string
		want  string
	}{
		{nil, []call{claims(0)}, "0 cas c0 0 1: 0 ok", "claim0:yes"},
		{[]call{claims(0)}, []call{claims(0)}, "0 cas c0 0 1: 1 no", "claim0:no"},
		{done, []call{claims(0)}, "0 cas c0 0 1: 2 no", "claim0:no"},
		{fell, []call{claims(0)}, "0 cas c0 0 1: 3 no", "claim0:no"},
		{nil, []call{claims(-1), fills(-1, 5, nil)}, "", "claim-1:no fill-1:no"},
		{nil, []call{claims(0), fills(0, 5, nil)}, tells0, "claim0:yes fill0:yes"},
		{nil, []call{claims(0), fills(0, 0, nil)}, tells0, "claim0:yes fill0:yes"},
		{nil, []call{claims(0), fills(0, 5, io.EOF)}, "0 cas c0 0 1: 0 ok; 0 store c0 3: 1; 0 swap c1 -1: 0", "claim0:yes fill0:yes"},
		{nil, []call{claims(0), fills(0, 5, (*fault.Failed)(nil))}, "0 cas c0 0 1: 0 ok; 0 store c0 3: 1; 0 swap c1 -1: 0", "claim0:yes fill0:yes"},
		{nil, []call{claims(0), fills(0, 5, api.OK)}, "0 cas c0 0 1: 0 ok; 0 store c0 3: 1; 0 swap c1 -1: 0", "claim0:yes fill0:yes"},
		{nil, []call{claims(0), fills(0, 5, nil), fills(0, 6, nil), fills(0, 6, io.EOF)}, tells0, "claim0:yes fill0:yes fill0:no fill0:no"},
		{done, []call{claims(0), fills(0, 6, nil)}, "0 cas c0 0 1: 2 no", "claim0:no fill0:no"},
		{[]call{thens(0, a), thens(0, b)}, []call{claims(0), fills(0, 5, nil)}, "0 cas c0 0 1: 0 ok; 0 store c0 2: 1; 0 swap c1 -1: 2", "claim0:yes A:5( ) B:5( ) fill0:yes"},
		{[]call{thens(0, busy("A", peeks(0), completes(0, 6, nil))), thens(0, b)}, []call{claims(0), fills(0, 5, io.EOF)}, "0 cas c0 0 1: 0 ok; 0 store c0 3: 1; 0 swap c1 -1: 2; 0 load c0: 3; 0 cas c0 0 1: 3 no", "claim0:yes A:EOF( peek0:EOF complete0:no ) B:EOF( ) fill0:yes"},
		{[]call{thens(0, a), thens(0, fallen("C", adds())), thens(0, b)}, []call{claims(0), fills(0, 5, nil), fills(0, 6, nil)}, "0 cas c0 0 1: 0 ok; 0 store c0 2: 1; 0 swap c1 -1: 3; 0 add c2 1: 0", "claim0:yes A:5( ) C:5( add:1 fill0:fell:C fill0:no"},
		{nil, []call{completes(0, 5, nil)}, tells0, "complete0:yes"},
		{nil, []call{completes(0, 5, io.EOF)}, "0 cas c0 0 1: 0 ok; 0 store c0 3: 1; 0 swap c1 -1: 0", "complete0:yes"},
		{[]call{claims(0)}, []call{completes(0, 5, nil)}, "0 cas c0 0 1: 1 no", "complete0:no"},
		{done, []call{completes(0, 6, nil)}, "0 cas c0 0 1: 2 no", "complete0:no"},
		{fell, []call{completes(0, 6, io.EOF)}, "0 cas c0 0 1: 3 no", "complete0:no"},
		{nil, []call{completes(-1, 6, nil)}, "", "complete-1:no"},
		{[]call{thens(0, a), thens(0, fallen("C")), thens(0, b)}, []call{completes(0, 5, nil)}, "0 cas c0 0 1: 0 ok; 0 store c0 2: 1; 0 swap c1 -1: 3", "A:5( ) C:5( complete0:fell:C"},
		{nil, []call{thens(0, a)}, adds0, "then0:ok"},
		{[]call{claims(0)}, []call{thens(0, a)}, adds0, "then0:ok"},
		{[]call{thens(0, a), alters(0, plus("M", 1))}, []call{thens(0, a)}, "0 load c0: 2; 0 add c1 1: 2; 0 cas c0 2 3: 2 ok", "then0:ok"},
		{full[:63], []call{thens(0, a)}, "0 load c0: 63; 0 add c1 1: 63; 0 cas c0 63 64: 63 ok", "then0:ok"},
		{full, []call{thens(0, a)}, "0 load c0: 64; 0 add c1 1: 64", "then0:ErrFull"},
		{append(full, thens(0, a)), []call{thens(0, a)}, "0 load c0: 64; 0 add c1 1: 65", "then0:ErrFull"},
		{done, []call{thens(0, a)}, "0 load c0: -1", "A:5( ) then0:ok"},
		{fell, []call{thens(0, a)}, "0 load c0: -1", "A:EOF( ) then0:ok"},
		{append(full, done...), []call{thens(0, a)}, "0 load c0: -1", "A:5( ) then0:ok"},
		{done, []call{thens(0, busy("A", adds(), thens(0, b)))}, "0 load c0: -1; 0 add c1 1: 0; 0 load c0: -1", "A:5( add:1 B:5( ) then0:ok ) then0:ok"},
		{done, []call{thens(0, fallen("A", adds()))}, "0 load c0: -1; 0 add c1 1: 0", "A:5( add:1 then0:fell:A"},
		{nil, []call{thens(0, nil)}, "", "then0:ErrArg"},
		{done, []call{thens(0, nil)}, "", "then0:ErrArg"},
		{full, []call{thens(0, nil)}, "", "then0:ErrArg"},
		{nil, []call{thens(-1, nil), thens(-1, a)}, "", "then-1:ErrNil then-1:ErrNil"},
		{done, []call{awaits(0)}, "0 load c0: 2", "await0:5"},
		{fell, []call{awaits(0)}, "0 load c0: 3", "await0:EOF"},
		{nil, []call{awaits(-1)}, "", "await-1:errno:2"},
		{nil, []call{peeks(0)}, "0 load c0: 0", "peek0:none"},
		{[]call{claims(0)}, []call{peeks(0)}, "0 load c0: 1", "peek0:none"},
		{done, []call{peeks(0)}, "0 load c0: 2", "peek0:5"},
		{fell, []call{peeks(0)}, "0 load c0: 3", "peek0:EOF"},
		{nil, []call{peeks(-1)}, "", "peek-1:none"},
		{nil, []call{alters(0, plus("M", 1))}, adds0, "map0:#1"},
		{full[:63], []call{alters(0, plus("M", 1))}, "0 load c0: 63; 0 add c1 1: 63; 0 cas c0 63 64: 63 ok", "map0:#13"},
		{full, []call{alters(0, plus("M", 1))}, "0 load c0: 64; 0 add c1 1: 64", "map0:ErrFull"},
		{done, []call{alters(0, plus("M", 1))}, "0 load c0: -1; 0 cas c1 0 1: 0 ok; 0 store c1 2: 1; 0 swap c2 -1: 0", "M:5 map0:#1"},
		{done, []call{alters(0, fails("M", io.EOF))}, "0 load c0: -1; 0 cas c1 0 1: 0 ok; 0 store c1 3: 1; 0 swap c2 -1: 0", "M:5 map0:#1"},
		{done, []call{alters(0, fallen("M"))}, "0 load c0: -1; 0 cas c1 0 1: 0 ok; 0 store c1 3: 1; 0 swap c2 -1: 0", "M:5 map0:#1"},
		{fell, []call{alters(0, fallen("M"))}, "0 load c0: -1; 0 cas c1 0 1: 0 ok; 0 store c1 3: 1; 0 swap c2 -1: 0", "map0:#1"},
		{[]call{alters(0, plus("M", 1))}, []call{completes(0, 5, nil)}, "0 cas c0 0 1: 0 ok; 0 store c0 2: 1; 0 swap c1 -1: 1; 0 cas c2 0 1: 0 ok; 0 store c2 2: 1; 0 swap c3 -1: 0", "M:5 complete0:yes"},
		{[]call{alters(0, plus("M", 1))}, []call{completes(0, 5, io.EOF)}, "0 cas c0 0 1: 0 ok; 0 store c0 3: 1; 0 swap c1 -1: 1; 0 cas c2 0 1: 0 ok; 0 store c2 3: 1; 0 swap c3 -1: 0", "complete0:yes"},
		{[]call{alters(0, plus("M", 1)), completes(1, 9, nil)}, []call{completes(0, 5, nil)}, "0 cas c0 0 1: 0 ok; 0 store c0 2: 1; 0 swap c1 -1: 1; 0 cas c2 0 1: 2 no", "M:5 complete0:yes"},
		{[]call{alters(0, plus("M", 1)), alters(1, plus("N", 1)), thens(2, a), thens(1, b)}, []call{completes(0, 5, nil)}, "0 cas c0 0 1: 0 ok; 0 store c0 2: 1; 0 swap c1 -1: 1; 0 cas c2 0 1: 0 ok; 0 store c2 2: 1; 0 swap c3 -1: 2; 0 cas c4 0 1: 0 ok; 0 store c4 2: 1; 0 swap c5 -1: 1", "M:5 N:6 A:7( ) B:6( ) complete0:yes"},
		{nil, []call{alters(0, nil)}, "", "map0:ErrArg"},
		{done, []call{alters(0, nil)}, "", "map0:ErrArg"},
		{full, []call{alters(0, nil)}, "", "map0:ErrArg"},
		{nil, []call{alters(-1, nil), alters(-1, plus("M", 1))}, "", "map-1:ErrNil map-1:ErrNil"},
	} {
		w := ours(1, row.first...)
		report, got := alone(w, row.calls...)
		if log := aid.Texts(report.Log); log != row.log || got != row.want || report.End != api.Over {
			t.Errorf("P14.1 to P14.7: %v behind %v:\n got %s: %s\nwant %s: %s", row.calls, texts(row.first), got, log, row.want, row.log)
		}
	}
}

// TestSleeps: who awaits a future that nobody fills sleeps at its state.
func TestSleeps(t *testing.T) {
	for _, row := range []struct {
		first  []call
		of     int
		stands string
	}{{nil, 0, "0"}, {[]call{claims(0)}, 0, "1"}, {[]call{alters(0, plus("M", 1))}, 1, "0"}} {
		report, got := alone(ours(1, row.first...), awaits(row.of))
		if aid.Texts(report.Log) != "0 load c0: "+row.stands || aid.Texts(report.Left) != "0 park c0 "+row.stands+": "+row.stands || report.End != api.Dead || got != "" {
			t.Errorf("P14.5: behind %v: %s: %+v", row.first, got, report)
		}
	}
	w := ours(1)
	alone(w, awaits(0))
	w.awake = true
	if got, want := w.makes(nil, peeks(0), completes(0, 5, nil), awaits(0)), "peek0:none complete0:yes await0:5"; got != want {
		t.Errorf("P14.5: behind one who sleeps: %s, not %s", got, want)
	}
}

// TestNewMakesNoAccess: even where its thread has others to make; each is another one, and nobody has claimed it.
func TestNewMakesNoAccess(t *testing.T) {
	var x, y *future.Future
	r := gate.Run(nil, 9, func(th *gate.Thread) {
		x, y = future.New(), future.New()
		th.Mark(1, 10)
		x.Peek(th)
	})
	if got, want := aid.Texts(r.Log), "0 mark 1 10; 0 load c0: 0"; got != want || x == y || x == nil {
		t.Errorf("P14.1: %s, not %s", got, want)
	}
	if x.Claim(nil) == nil || !y.Complete(nil, 1, nil) {
		t.Error("P14.1: somebody has claimed it")
	}
}

// TestOneTooMany: a future takes 64 functions, Thens' and Maps', and not one more, again and again; when it is filled, those are called, in their order, and others at once.
func TestOneTooMany(t *testing.T) {
	for what, row := range map[string]struct {
		calls  func(i int) call
		called func(i int, s string) string
		refuse string
	}{
		"functions": {func(i int) call { return thens(0, quiet("f"+strconv.Itoa(i))) }, func(i int, s string) string { return "f" + strconv.Itoa(i) + ":" + s + "( )" }, "then0:ErrFull"},
		"Maps":      {func(i int) call { return alters(0, plus("f"+strconv.Itoa(i), 1)) }, func(i int, s string) string { return "f" + strconv.Itoa(i) + ":" + s }, "map0:ErrFull"},
	} {
		w := ours(1)
		var called []string
		for i := range 64 {
			if got := w.makes(nil, row.calls(i)); strings.Contains(got, "Err") {
				t.Fatalf("P14.4, P14.7: %s: the number %d: %s", what, i, got)
			}
			called = append(called, row.called(i, "5"))
		}
		for i := range 100 {
			report, got := alone(w, row.calls(70), thens(0, quiet("g")))
			log := "0 load c0: 64; 0 add c1 1: " + strconv.Itoa(64+3*i) + "; 0 load c0: 64; 0 add c1 1: " + strconv.Itoa(65+3*i)
			if aid.Texts(report.Log) != log || got != row.refuse+" then0:ErrFull" {
				t.Fatalf("P14.4, P14.7: %s: one too many: %s: %s", what, got, aid.Texts(report.Log))
			}
			if got := w.makes(nil, alters(0, plus("g", 1)), peeks(0)); got != "map0:ErrFull peek0:none" {
				t.Fatalf("P14.7: %s: one too many: %s", what, got)
			}
		}
		if got, want := w.makes(nil, completes(0, 5, nil)), strings.Join(called, " ")+" complete0:yes"; got != want {
			t.Errorf("P14.2: %s: %s\nnot %s", what, got, want)
		}
		for i := range 70 {
			if got, want := w.makes(nil, thens(0, quiet("h")), completes(0, 6, nil)), "h:5( ) then0:ok complete0:no"; got != want {
				t.Fatalf("P14.4: %s: behind it the number %d: %s", what, i, got)
			}
		}
		if l := w.follows(true); len(l) != 0 {
			t.Errorf("what follows: %s: %v", what, l)
		}
	}
}

// TestSequences: all short rows of calls of one future, free and by a thread.
func TestSequences(t *testing.T) {
	calls := []call{claims(0), fills(0, 1, nil), completes(0, 2, io.EOF), completes(0, 3, nil), thens(0, busy("A", completes(0, 4, nil), thens(0, quiet("B")), peeks(0))), alters(0, plus("M", 7)), awaits(0), peeks(1), completes(1, 5, nil), thens(0, fallen("C"))}
	for _, l := range aid.Rows(calls, 4) {
		w, as := ours(1), newWorld[*words, *pledged](newWords, 1)
		w.awake, as.awake = true, true
		want := as.makes(nil, l...)
		if got := w.makes(nil, l...); got != want || len(w.follows(true)) != 0 {
			t.Fatalf("P14.1 to P14.7: free: %v: %s, not %s: %v", l, got, want, w.follows(true))
		}
		w = ours(1)
		w.awake = true
		if r, got := alone(w, l...); got != want || len(w.follows(true)) != 0 || r.End != api.Over {
			t.Fatalf("P14.1 to P14.7: by a thread: %v: %s, not %s: %v", l, got, want, w.follows(true))
		}
	}
}

// TestRefused: what is refused changes nothing but the count of places that are given out.
func TestRefused(t *testing.T) {
	for what, first := range map[string][]call{
		"new": nil, "claimed": {claims(0)}, "with functions": {thens(0, quiet("A")), alters(0, plus("M", 1))}, "full": crowd(64, 0), "filled": {completes(0, 5, nil)}, "with an error": {completes(0, 5, io.EOF)}, "of a Map": {alters(0, plus("M", 1)), completes(0, 2, nil)},
	} {
		calls := []call{thens(0, nil), alters(0, nil), thens(-1, quiet("never")), thens(-1, nil), alters(-1, plus("never", 1)), alters(-1, nil), claims(-1), completes(-1, 1, nil), completes(-1, 1, io.EOF), awaits(-1), peeks(-1), fills(0, 1, nil), fills(-1, 1, nil)}
		w, as := ours(1, first...), newWorld[*words, *pledged](newWords, 1)
		as.makes(nil, first...)
		for _, c := range calls {
			report, got := alone(w, c)
			if len(report.Log) != 0 || got != as.makes(nil, c) || got != w.makes(nil, c) {
				t.Errorf("R2: %s: %v: %s: %s", what, c, got, aid.Texts(report.Log))
			}
		}
		w.awake, as.awake = true, true
		l := tells(len(as.all))
		if got, want := w.makes(nil, l...), as.makes(nil, l...); got != want {
			t.Errorf("R2: %s: %s, not %s", what, got, want)
		}
	}
}

// TestNone: futures and promises that are none, by threads of every kind: no access, and nothing is called.
func TestNone(t *testing.T) {
	var null *future.Future
	never := quiet("never")
	asked := func(who string, th *gate.Thread) {
		for what, x := range map[string]*future.Future{"nil": null, "made by no call": {}, "made by new": new(future.Future)} {
			w := newWorld[*future.Future, *future.Promise](func() *future.Future { return x }, 1)
			for _, n := range aid.Values() {
				got := w.makes(th, claims(0), completes(0, n, nil), completes(0, n, io.EOF), thens(0, never), thens(0, nil), alters(0, never), alters(0, nil), awaits(0), peeks(0), claims(0), awaits(0))
				if want := "claim0:no complete0:no complete0:no then0:ErrNil then0:ErrNil map0:ErrNil map0:ErrNil await0:errno:2 peek0:none claim0:no await0:errno:2"; got != want {
					t.Errorf("R3: %s, by %s: %d: %s", what, who, n, got)
				}
			}
			if v, e := x.Await(th); v != 0 || e != error(api.ErrNil) {
				t.Errorf("P14.5: %s, by %s: %d %v", what, who, v, e)
			}
		}
		for what, p := range map[string]*future.Promise{"nil": nil, "made by no call": {}, "made by new": new(future.Promise)} {
			for range 2 {
				if p.Fill(th, 5, nil) || p.Fill(th, 0, io.EOF) {
					t.Errorf("R3: a promise %s, by %s", what, who)
				}
			}
		}
	}
	for _, f := range aid.Idle(asked) {
		t.Errorf("R3: %s", f)
	}
}

// TestNotLiving: a call that is handed a thread that does not live makes no access of the thread in whose goroutine it is, nor do the functions that are called in it.
func TestNotLiving(t *testing.T) {
	for what, th := range aid.NotLiving() {
		w, got := ours(2), ""
		w.awake = true
		r := gate.Run(nil, 9, func(*gate.Thread) {
			got = w.makes(th, thens(0, busy("A", adds(), completes(1, 6, nil), peeks(1))), alters(0, plus("M", 1)), claims(0), fills(0, 5, nil), awaits(0), awaits(2), peeks(1), thens(1, quiet("B")), alters(1, fallen("N")))
		})
		if want := "then0:ok map0:#2 claim0:yes A:5( add:1 complete1:yes peek1:6 ) M:5 fill0:yes await0:5 await2:6 peek1:6 B:6( ) then1:ok N:6 map1:#3"; got != want || len(r.Log) != 0 || r.End != api.Over {
			t.Errorf("P14.1 to P14.7: %s: %s, not %s: %+v", what, got, want, r)
		}
	}
}

// TestEachIsItsOwn: what one future is, another is not; a promise fills its own.
func TestEachIsItsOwn(t *testing.T) {
	w := ours(3)
	w.awake = true
	got := w.makes(nil, thens(0, quiet("A")), thens(1, quiet("B")), claims(1), claims(0), completes(2, 7, nil), peeks(0), peeks(1), fills(1, 8, io.EOF), peeks(0), fills(0, 9, nil), awaits(0), awaits(1), awaits(2))
	if want := "then0:ok then1:ok claim1:yes claim0:yes complete2:yes peek0:none peek1:none B:EOF( ) fill1:yes peek0:none A:9( ) fill0:yes await0:9 await1:EOF await2:7"; got != want {
		t.Errorf("P14.1 to P14.6: %s, not %s", got, want)
	}
}

// TestValues: what a future is filled with is what everybody is told: by Await and Peek, to a function ahead of it and one behind.
func TestValues(t *testing.T) {
	by(t, func(who string, th *gate.Thread) {
		for _, v := range aid.Values() {
			for _, c := range []func(x *future.Future) bool{func(x *future.Future) bool { return x.Complete(th, v, nil) }, func(x *future.Future) bool { return x.Claim(th).Fill(th, v, nil) }} {
				l, x := heardOf(th, c)
				g, e := x.Map(th, func(w int64) (int64, error) { return w, nil })
				l = append(l, aid.Told(g.Await(th)))
				if e != api.OK || slices.ContainsFunc(l, func(a aid.Answer) bool { return a != aid.Told(v, nil) }) {
					t.Errorf("what follows: %d, by %s: %v", v, who, l)
				}
			}
		}
	})
}

// heardOf: what is told of a future that one fills: to a function ahead of that, to one behind it, by Await and by Peek, twice.
func heardOf(th *gate.Thread, fill func(x *future.Future) bool) (l []aid.Answer, x *future.Future) {
	x = future.New()
	hears := func(u *gate.Thread, v int64, e error) {
		if l = append(l, aid.Told(v, e)); u != th {
			l = append(l, aid.Told(0, io.ErrNoProgress))
		}
	}
	is := x.Then(th, hears) == api.OK && fill(x) && x.Then(th, hears) == api.OK
	for range 2 {
		v, e, done := x.Peek(th)
		l = append(l, aid.Told(v, e), aid.Told(x.Await(th)))
		is = is && done
	}
	if !is || len(l) != 6 {
		l = append(l, aid.Told(0, io.ErrUnexpectedEOF))
	}
	return l, x
}

// TestErrors: an error that a future is filled with, whatever it is, is what everybody is told, just that one, with 0; and what a Map comes to.
func TestErrors(t *testing.T) {
	by(t, func(who string, th *gate.Thread) {
		for i, e := range aid.Errors() {
			for _, v := range []int64{0, 5, -1, math.MinInt64} {
				l, x := heardOf(th, func(x *future.Future) bool { return x.Complete(th, v, e) })
				g, _ := x.Map(th, func(int64) (int64, error) { panic("never") })
				l = append(l, aid.Told(g.Await(th)))
				if slices.ContainsFunc(l, func(a aid.Answer) bool { return a != aid.Told(0, e) }) {
					t.Errorf("P14.2, P14.7: the error number %d beside %d, by %s: %v", i, v, who, l)
				}
			}
		}
		l, x := heardOf(th, func(x *future.Future) bool { return x.Claim(th).Fill(th, 5, aid.Awkward{io.EOF}) })
		g, _ := x.Map(th, func(int64) (int64, error) { panic("never") })
		for _, a := range append(l, aid.Told(g.Await(th))) {
			if a.V != 0 || a.E.(aid.Awkward)[0] != io.EOF {
				t.Errorf("P14.2: an error that is not to be asked, by %s: %d", who, a.V)
			}
		}
	})
}
