package limit_test

import (
	"errors"
	"io"
	"math"
	"slices"
	"strconv"
	"strings"
	"testing"

	"treadle/aid"
	"treadle/api"
	"treadle/clock"
	"treadle/fault"
	"treadle/future"
	"treadle/gate"
	"treadle/limit"
	"treadle/token"
)

// failed: an error with this code.
func failed(code int64) error { return &fault.Failed{Code: code} }

// crowd: calls that give one future so many functions.
func crowd(n, of int) []call { return slices.Repeat([]call{thens(of, quiet("f"))}, n) }

// tribe: calls that give one token so many children and functions, by turns.
func tribe(n, of int) (l []call) {
	for i := range n {
		if l = append(l, onCancels(of, quiet("f"))); i%2 == 0 {
			l[i] = bears(of)
		}
	}
	return l
}

// line: calls that make so many children, each of the one ahead of it, the first one of the token 0.
func line(n int) (l []call) {
	for i := range n {
		l = append(l, bears(i))
	}
	return l
}

// timers: calls that set so many timers of a clock, of this due.
func timers(n, c int, due int64) []call { return slices.Repeat([]call{sets(c, due, quiet("s"))}, n) }

// TestLate: the reason.
func TestLate(t *testing.T) {
	const is int8 = limit.Late // it is without a type of its own
	if is != 1 {
		t.Errorf("Late is %d", is)
	}
}

// TestExamples: the chapter's table.
func TestExamples(t *testing.T) {
	by(t, func(who string, th *gate.Thread) {
		for _, row := range []struct {
			calls []call
			want  string
		}{
			{[]call{withins(0, 0, 3), advances(0, 2), completes(0, 5, nil), awaits(1), advances(0, 9)}, "within(0,0,3):#1 advance0(2):0 complete0:yes await1:5 advance0(9):0"},
			{[]call{withins(0, 0, 3), advances(0, 3), peeks(1), completes(0, 5, nil), peeks(0), awaits(1)}, "within(0,0,3):#1 advance0(3):1 peek1:late_3 complete0:yes peek0:5 await1:late_3"},
			{[]call{completes(0, 5, nil), withins(0, 0, 0), advances(0, 0), awaits(1)}, "complete0:yes within(0,0,0):#1 advance0(0):0 await1:5"},
			{[]call{deadlines(0, 0, 4), advances(0, 4), reasons(1), reasons(0)}, "deadline(0,0,4):#1 advance0(4):1 reason1:1 reason0:0"},
			{[]call{deadlines(0, 0, 4), cancels(0, 7), advances(0, 9), reasons(1)}, "deadline(0,0,4):#1 cancel0(7):yes advance0(9):0 reason1:7"},
			{[]call{withins(0, 0, -1), deadlines(-1, 0, 1)}, "within(0,0,-1):ErrArg deadline(-1,0,1):ErrNil"},
		} {
			w := newWorld(made, usual)
			w.awake = true
			if got := w.makes(th, row.calls...); got != row.want || len(w.follows(true)) != 0 {
				t.Errorf("P17.1, P17.2: by %s: %v:\n got %s\nwant %s: %v", who, row.calls, got, row.want, w.follows(true))
			}
		}
	})
}

// loads: the texts of so many loads, by the thread 0, of cells that follow one another from this one on and hold 0.
func loads(cell, n int) string {
	var l []string
	for i := range n {
		l = append(l, "0 load c"+strconv.Itoa(cell+i)+": 0")
	}
	return strings.Join(l, "; ")
}

// joined: texts of accesses, one behind the other.
func joined(l ...string) string { return strings.Join(l, "; ") }

// Accesses, where nobody else goes between them.
const (
	timed  = "0 load c0: 0; 0 load c1: 0; 0 cas c1 0 1: 0 ok; 0 store c2 3: 0; 0 store c1 2: 1" // Now, and Set
	hung   = "0 load c3: 0; 0 add c4 1: 0; 0 cas c3 0 1: 0 ok"                                  // Then
	fills  = "0 cas c0 0 1: 0 ok; 0 store c0 2: 1; 0 swap c1 -1: 1"                             // Complete, of what has one function
	falls  = "0 cas c0 0 1: 0 ok; 0 store c0 3: 1; 0 swap c1 -1: 1"
	filled = "0 cas c2 0 1: 0 ok; 0 store c2 2: 1; 0 swap c3 -1: 0" // what is filled then
	fell   = "0 cas c2 0 1: 0 ok; 0 store c2 3: 1; 0 swap c3 -1: 0"
	born   = "0 load c0: 0; 0 add c1 1: 0; 0 cas c0 0 1: 0 ok"                                  // Child
	dated  = "0 load c2: 0; 0 load c3: 0; 0 cas c3 0 1: 0 ok; 0 store c4 3: 0; 0 store c3 2: 1" // Now, and Set
	heard  = "0 load c5: 0; 0 add c6 1: 0; 0 cas c5 0 1: 0 ok"                                  // OnCancel
)

// TestSteps: of each call, where nobody else goes between them.
func TestSteps(t *testing.T) {
	full, nobody := timers(16, 0, 9), crowd(64, 0)
	looks := joined("0 cas c0 0 1: 0 ok; 0 load c1: 0; 0 store c1 3: 0; 0 load c2: 2; 0 load c3: 3", loads(4, 15), "0 cas c2 2 3: 2 ok")
	ends := joined("0 store c2 4: 3; 0 load c2: 4", loads(4, 15), "0 store c0 0: 1")
	for _, row := range []struct {
		first []call
		calls []call
		log   string
		want  string
	}{
		{nil, []call{withins(0, 0, 3)}, joined(timed, hung), "within(0,0,3):#1"},
		{[]call{advances(0, 4)}, []call{withins(0, 0, 3)}, "0 load c0: 4; 0 load c1: 0; 0 cas c1 0 1: 0 ok; 0 store c2 7: 0; 0 store c1 2: 1; " + hung, "within(0,0,3):#1"},
		{[]call{sets(0, 9, quiet("s")), sets(0, 1, quiet("s")), advances(0, 2)}, []call{withins(0, 0, 3)}, "0 load c0: 2; 0 load c1: 2; 0 load c2: 4; 0 cas c2 4 5: 4 ok; 0 store c3 5: 1; 0 store c2 6: 5; 0 load c4: 0; 0 add c5 1: 0; 0 cas c4 0 1: 0 ok", "within(0,0,3):#1"},
		{[]call{completes(0, 5, nil)}, []call{withins(0, 0, 3)}, timed + "; 0 load c3: -1; 0 cas c4 0 1: 0 ok; 0 store c4 2: 1; 0 swap c5 -1: 0; 0 cas c1 2 4: 2 ok", "within(0,0,3):#1"},
		{[]call{completes(0, 5, io.EOF)}, []call{withins(0, 0, 3)}, timed + "; 0 load c3: -1; 0 cas c4 0 1: 0 ok; 0 store c4 3: 1; 0 swap c5 -1: 0; 0 cas c1 2 4: 2 ok", "within(0,0,3):#1"},
		{[]call{claims(0)}, []call{withins(0, 0, 3)}, joined(timed, hung), "within(0,0,3):#1"},
		{full, []call{withins(0, 0, 3)}, "0 load c0: 0; " + strings.ReplaceAll(loads(1, 16), ": 0", ": 2"), "within(0,0,3):ErrFull"},
		{slices.Concat(full, []call{completes(0, 5, nil)}), []call{withins(0, 0, 3)}, "0 load c0: 0; " + strings.ReplaceAll(loads(1, 16), ": 0", ": 2"), "within(0,0,3):ErrFull"},
		{slices.Concat(full, nobody), []call{withins(0, 0, 3)}, "0 load c0: 0; " + strings.ReplaceAll(loads(1, 16), ": 0", ": 2"), "within(0,0,3):ErrFull"},
		{nobody, []call{withins(0, 0, 3)}, timed + "; 0 load c3: 64; 0 add c4 1: 64; 0 cas c1 2 4: 2 ok", "within(0,0,3):ErrFull"},
		{slices.Concat(nobody, []call{withins(0, 0, 3)}), []call{withins(0, 0, 3)}, "0 load c0: 0; 0 load c1: 4; 0 cas c1 4 5: 4 ok; 0 store c2 3: 3; 0 store c1 6: 5; 0 load c3: 64; 0 add c4 1: 65; 0 cas c1 6 8: 6 ok", "within(0,0,3):ErrFull"},
		{slices.Concat(nobody, []call{completes(0, 5, nil)}), []call{withins(0, 0, 3)}, timed + "; 0 load c3: -1; 0 cas c4 0 1: 0 ok; 0 store c4 2: 1; 0 swap c5 -1: 0; 0 cas c1 2 4: 2 ok", "within(0,0,3):#1"},
		{[]call{withins(0, 0, 3)}, []call{completes(0, 5, nil)}, joined(fills, filled, "0 cas c4 2 4: 2 ok"), "complete0:yes"},
		{[]call{withins(0, 0, 3)}, []call{completes(0, 5, io.EOF)}, joined(falls, fell, "0 cas c4 2 4: 2 ok"), "complete0:yes"},
		{[]call{withins(0, 0, 3), advances(0, 3)}, []call{completes(0, 5, nil)}, fills + "; 0 cas c2 0 1: 3 no", "complete0:yes"},
		{[]call{withins(0, 0, 3), completes(1, 7, nil)}, []call{completes(0, 5, nil)}, fills + "; 0 cas c2 0 1: 2 no", "complete0:yes"},
		{[]call{withins(0, 0, 3), claims(1)}, []call{completes(0, 5, io.EOF)}, falls + "; 0 cas c2 0 1: 1 no", "complete0:yes"},
		{[]call{withins(0, 0, 3), withins(0, 0, 2)}, []call{completes(0, 5, nil)}, "0 cas c0 0 1: 0 ok; 0 store c0 2: 1; 0 swap c1 -1: 2; " + filled + "; 0 cas c4 2 4: 2 ok; 0 cas c5 0 1: 0 ok; 0 store c5 2: 1; 0 swap c6 -1: 0; 0 cas c7 2 4: 2 ok", "complete0:yes"},
		{[]call{withins(0, 0, 3)}, []call{advances(0, 3)}, looks + "; 0 cas c19 0 1: 0 ok; 0 store c19 3: 1; 0 swap c20 -1: 0; " + ends, "advance0(3):1"},
		{[]call{withins(0, 0, 3), completes(1, 5, nil)}, []call{advances(0, 3)}, looks + "; 0 cas c19 0 1: 2 no; " + ends, "advance0(3):1"},
		{[]call{withins(0, 0, 3)}, []call{advances(0, 2)}, joined("0 cas c0 0 1: 0 ok; 0 load c1: 0; 0 store c1 2: 0; 0 load c2: 2; 0 load c3: 3", loads(4, 15), "0 store c0 0: 1"), "advance0(2):0"},
		{[]call{withins(0, 0, 3), completes(0, 5, nil)}, []call{advances(0, 3)}, joined("0 cas c0 0 1: 0 ok; 0 load c1: 0; 0 store c1 3: 0; 0 load c2: 4", loads(3, 15), "0 store c0 0: 1"), "advance0(3):0"},
		{[]call{withins(0, 0, 3), thens(1, busy("A", adds()))}, []call{completes(0, 5, nil)}, fills + "; 0 cas c2 0 1: 0 ok; 0 store c2 2: 1; 0 swap c3 -1: 1; 0 add c4 1: 0; 0 cas c5 2 4: 2 ok", "A:5( add:1 ) complete0:yes"},
		{nil, []call{withins(-1, 0, 3), withins(-2, 0, 3), withins(0, -1, 3), withins(0, -2, 3), withins(-1, -2, -1), withins(0, 0, -1), withins(0, -1, -1), withins(-2, 0, -1)}, "", "within(-1,0,3):ErrNil within(-2,0,3):ErrNil within(0,-1,3):ErrNil within(0,-2,3):ErrNil within(-1,-2,-1):ErrNil within(0,0,-1):ErrArg within(0,-1,-1):ErrNil within(-2,0,-1):ErrNil"},
		{slices.Concat(full, nobody), []call{withins(0, 0, -1), withins(0, 0, math.MinInt64), withins(-1, 0, 3)}, "", "within(0,0,-1):ErrArg within(0,0,-9223372036854775808):ErrArg within(-1,0,3):ErrNil"},

		{nil, []call{deadlines(0, 0, 3)}, joined(born, dated, heard), "deadline(0,0,3):#1"},
		{[]call{advances(0, 4)}, []call{deadlines(0, 0, 3)}, born + "; 0 load c2: 4; 0 load c3: 0; 0 cas c3 0 1: 0 ok; 0 store c4 7: 0; 0 store c3 2: 1; 0 load c5: 0; 0 add c6 1: 0; 0 cas c5 0 1: 0 ok", "deadline(0,0,3):#1"},
		{[]call{cancels(0, 7)}, []call{deadlines(0, 0, 3)}, joined("0 load c0: -1; 0 load c1: 7; 0 store c2 7: 0; 0 swap c3 -1: 0", "0 load c4: 0; 0 load c5: 0; 0 cas c5 0 1: 0 ok; 0 store c6 3: 0; 0 store c5 2: 1", "0 load c3: -1; 0 load c2: 7; 0 cas c5 2 4: 2 ok"), "deadline(0,0,3):#1"},
		{full, []call{deadlines(0, 0, 3)}, born + "; 0 load c2: 0; " + strings.ReplaceAll(loads(3, 16), ": 0", ": 2"), "deadline(0,0,3):ErrFull"},
		{slices.Concat(full, []call{cancels(0, 7)}), []call{deadlines(0, 0, 3)}, "0 load c0: -1; 0 load c1: 7; 0 store c2 7: 0; 0 swap c3 -1: 0; 0 load c4: 0; " + strings.ReplaceAll(loads(5, 16), ": 0", ": 2"), "deadline(0,0,3):ErrFull"},
		{tribe(64, 0), []call{deadlines(0, 0, 3)}, "0 load c0: 64; 0 add c1 1: 64", "deadline(0,0,3):ErrFull"},
		{slices.Concat(full, tribe(64, 0)), []call{deadlines(0, 0, 3)}, "0 load c0: 64; 0 add c1 1: 64", "deadline(0,0,3):ErrFull"},
		{tribe(63, 0), []call{deadlines(0, 0, 3)}, joined("0 load c0: 63; 0 add c1 1: 63; 0 cas c0 63 64: 63 ok", dated, heard), "deadline(0,0,3):#33"},
		{line(64), []call{deadlines(0, 64, 3)}, "", "deadline(0,64,3):ErrDeep"},
		{slices.Concat(line(64), full), []call{deadlines(0, 64, 3), deadlines(0, 64, -1), deadlines(-1, 64, 3), deadlines(0, 64, 0)}, "", "deadline(0,64,3):ErrDeep deadline(0,64,-1):ErrArg deadline(-1,64,3):ErrNil deadline(0,64,0):ErrDeep"},
		{line(63), []call{deadlines(0, 63, 3)}, joined(born, dated, heard), "deadline(0,63,3):#64"},
		{[]call{deadlines(0, 0, 3)}, []call{cancels(1, 7)}, "0 cas c0 0 7: 0 ok; 0 swap c1 -1: 1; 0 cas c2 2 4: 2 ok", "cancel1(7):yes"},
		{[]call{deadlines(0, 0, 3)}, []call{cancels(0, 7)}, "0 cas c0 0 7: 0 ok; 0 swap c1 -1: 1; 0 cas c2 0 7: 0 ok; 0 swap c3 -1: 1; 0 cas c4 2 4: 2 ok", "cancel0(7):yes"},
		{[]call{deadlines(0, 0, 3), cancels(1, 2)}, []call{cancels(0, 7)}, "0 cas c0 0 7: 0 ok; 0 swap c1 -1: 1; 0 cas c2 0 7: 2 no", "cancel0(7):yes"},
		{slices.Concat(full, []call{deadlines(0, 0, 3)}), []call{cancels(0, 7)}, "0 cas c0 0 7: 0 ok; 0 swap c1 -1: 1; 0 cas c2 0 7: 0 ok; 0 swap c3 -1: 0", "cancel0(7):yes"},
		{[]call{deadlines(0, 0, 3)}, []call{advances(0, 3)}, joined(looks, "0 cas c19 0 1: 0 ok; 0 swap c20 -1: 1; 0 cas c2 2 4: 3 no", ends), "advance0(3):1"},
		{[]call{deadlines(0, 0, 3), onCancels(1, busy("A", adds()))}, []call{advances(0, 3)}, joined(looks, "0 cas c19 0 1: 0 ok; 0 swap c20 -1: 2; 0 cas c2 2 4: 3 no; 0 add c21 1: 0", ends), "A:1( add:1 ) advance0(3):1"},
		{[]call{deadlines(0, 0, 3), cancels(0, 7)}, []call{advances(0, 3)}, joined("0 cas c0 0 1: 0 ok; 0 load c1: 0; 0 store c1 3: 0; 0 load c2: 4", loads(3, 15), "0 store c0 0: 1"), "advance0(3):0"},
		{nil, []call{deadlines(-1, 0, 3), deadlines(-2, 0, 3), deadlines(0, -1, 3), deadlines(0, -2, 3), deadlines(-1, -2, -1), deadlines(0, 0, -1), deadlines(0, -1, -1), deadlines(-2, 0, -1)}, "", "deadline(-1,0,3):ErrNil deadline(-2,0,3):ErrNil deadline(0,-1,3):ErrNil deadline(0,-2,3):ErrNil deadline(-1,-2,-1):ErrNil deadline(0,0,-1):ErrArg deadline(0,-1,-1):ErrNil deadline(-2,0,-1):ErrNil"},
		{slices.Concat(full, tribe(64, 0)), []call{deadlines(0, 0, -1), deadlines(0, 0, math.MinInt64), deadlines(-1, 0, 3)}, "", "deadline(0,0,-1):ErrArg deadline(0,0,-9223372036854775808):ErrArg deadline(-1,0,3):ErrNil"},
	} {
		w := ours(usual, row.first...)
		report, got := w.one(row.calls...)
		if log := aid.Texts(report.Log); log != row.log || got != row.want || report.End != api.Over || len(w.follows(true)) != 0 {
			t.Errorf("P17.1, P17.2: %v behind %v:\n got %s: %s\nwant %s: %s: %v", row.calls, texts(row.first), got, log, row.want, row.log, w.follows(true))
		}
	}
}

// TestTaken: a clock all of whose slots are taken: whatever is refused takes none, and is refused again; when one is free it is not.
func TestTaken(t *testing.T) {
	w := ours(plan{1, 2, 1}, slices.Concat(timers(14, 0, 50), []call{withins(0, 0, 20), deadlines(0, 0, 30)})...)
	for _, row := range []struct {
		calls []call
		want  string
	}{
		{[]call{withins(0, 1, 3), deadlines(0, 0, 3), withins(0, 0, 0), sets(0, 1, quiet("s"))}, "within(0,1,3):ErrFull deadline(0,0,3):ErrFull within(0,0,0):ErrFull set0(1):ErrFull"},
		{[]call{completes(0, 5, nil), peeks(2), withins(0, 1, 3), deadlines(0, 0, 3)}, "complete0:yes peek2:5 within(0,1,3):#3 deadline(0,0,3):ErrFull"},
		{[]call{cancels(1, 7), withins(0, 1, 4), withins(0, 1, 5), cancels(0, 8)}, "cancel1(7):yes within(0,1,4):#4 within(0,1,5):ErrFull cancel0(8):yes"},
		{[]call{advances(0, 4), peeks(1), peeks(3), peeks(4), sets(0, 9, quiet("s")), sets(0, 9, quiet("s")), sets(0, 9, quiet("s"))}, "advance0(4):2 peek1:none peek3:late_3 peek4:late_4 set0(9):14/10 set0(9):15/10 set0(9):ErrFull"},
	} {
		if got := w.alone(row.calls...); got != row.want || len(w.follows(true)) != 0 {
			t.Errorf("P17.1, P17.2: %v:\n got %s\nwant %s: %v", row.calls, got, row.want, w.follows(true))
		}
	}
}

// TestOneTooMany: a future has room for 64 functions, a token for 64 children, and not for one more; what is refused leaves no timer.
func TestOneTooMany(t *testing.T) {
	w := ours(plan{5, 1, 1})
	for i := range 64 {
		w.alone(withins(i/16, 0, int64(i)), deadlines(4, 0, 3), cancels(i+1, 9))
	}
	if len(w.futures) != 65 || len(w.tokens) != 65 || len(w.follows(true)) != 0 {
		t.Fatalf("P17.1, P17.2: %d futures, %d tokens: %v", len(w.futures), len(w.tokens), w.follows(true))
	}
	for range 3 {
		if got, want := w.alone(withins(4, 0, 1), deadlines(4, 0, 1)), "within(4,0,1):ErrFull deadline(4,0,1):ErrFull"; got != want {
			t.Errorf("P17.1, P17.2: one too many: %s, not %s", got, want)
		}
	}
	got := w.alone(advances(4, 99), withins(3, 0, 1), advances(0, 7), advances(3, 48), completes(0, 5, nil), advances(0, 99), advances(1, 99), advances(2, 99), advances(3, 99), cancels(0, 3))
	if want := "advance4(99):0 within(3,0,1):ErrFull advance0(7):8 advance3(48):1 complete0:yes advance0(99):0 advance1(99):0 advance2(99):0 advance3(99):0 cancel0(3):yes"; got != want || len(w.follows(true)) != 0 {
		t.Errorf("P17.1, P17.2: %s\nnot %s: %v", got, want, w.follows(true))
	}
}

// TestDeep: a token of a Deadline may have others below it, as deep as tokens may be: the one whose time is over is cancelled, with all below it.
func TestDeep(t *testing.T) {
	w := ours(plan{5, 0, 1})
	for i := range 64 {
		if got, want := w.alone(deadlines(i/16, i, int64(100-i%16))), "#"+strconv.Itoa(i+1); !strings.HasSuffix(got, ":"+want) {
			t.Fatalf("P17.2: %s, not %s", got, want)
		}
	}
	if got, want := w.alone(deadlines(4, 64, 5), deadlines(4, 64, 0), advances(4, 99)), "deadline(4,64,5):ErrDeep deadline(4,64,0):ErrDeep advance4(99):0"; got != want {
		t.Errorf("P17.2: %s, not %s", got, want)
	}
	got := w.alone(advances(2, 85), advances(3, 200), reasons(47), advances(1, 99), cancels(7, 4), advances(0, 200), advances(1, 200), advances(2, 200), reasons(0))
	want := "advance2(85):1 advance3(200):0 reason47:0 advance1(99):15 cancel7(4):yes advance0(200):6 advance1(200):0 advance2(200):0 reason0:0"
	if got != want || len(w.follows(true)) != 0 {
		t.Errorf("P17.2: %s\nnot %s: %v", got, want, w.follows(true))
	}
	for i, k := range w.tokens {
		want := []int64{0, 1, 4, 1}[aid.Digit(i > 0)+aid.Digit(i > 6)+aid.Digit(i > 17)]
		if r := k.Reason(nil); r != want {
			t.Errorf("P17.2: the reason of the token %d is %d, not %d", i, r, want)
		}
	}
}

// TestDues: what is due is Now and d, but the last time, if that is more: it rings there, and not ahead of it.
func TestDues(t *testing.T) {
	const most = api.MaxTime
	times := []int64{0, 1, 2, 5, 1 << 31, 1 << 32, 1<<32 + 1, 1 << 61, most - 2, most - 1, most, most + 1, math.MaxInt64 - 1, math.MaxInt64}
	by(t, func(who string, th *gate.Thread) {
		for _, n := range times {
			for _, d := range times {
				dues(t, who, th, min(n, most), d)
			}
		}
	})
}

// dues: what is made at the time n lasts for d, but not beyond the last time.
func dues(t *testing.T, who string, th *gate.Thread, n, d int64) {
	t.Helper()
	c, f, k := clock.New(), future.New(), token.New()
	c.Advance(th, n)
	g, e := limit.Within(th, c, f, d)
	x, q := limit.Deadline(th, c, k, d)
	if e != api.OK || q != api.OK {
		t.Fatalf("P17.1, P17.2: %d behind %d, by %s: %d %d", d, n, who, e, q)
	}
	due := later(n, d)
	if due > n {
		rang, _ := c.Advance(th, due-n-1)
		if _, _, done := g.Peek(th); rang != 0 || done || x.Reason(th) != 0 {
			t.Errorf("P17.1, P17.2: %d behind %d, by %s: it is late ahead of its time", d, n, who)
		}
	}
	rang, _ := c.Advance(th, int64(aid.Digit(due > n)))
	v, err := g.Await(th)
	late, is := err.(*fault.Late)
	if rang != 2 || v != 0 || !is || late.Due != due || x.Reason(th) != limit.Late || k.Reason(th) != 0 || !f.Complete(th, 5, nil) {
		t.Errorf("P17.1, P17.2: %d behind %d, by %s: %d ring: %d %v", d, n, who, rang, v, err)
	}
}

// TestValues: whatever it comes to is handed on.
func TestValues(t *testing.T) {
	by(t, func(who string, th *gate.Thread) {
		for _, v := range aid.Values() {
			f := future.New()
			g, e := limit.Within(th, clock.New(), f, 3)
			f.Complete(th, v, nil)
			h, q := limit.Within(th, clock.New(), f, 3)
			if a, b := aid.Told(g.Await(th)), aid.Told(h.Await(th)); a != aid.Told(v, nil) || a != b || e != api.OK || q != api.OK || g == f || g == h {
				t.Errorf("P17.1: %d, by %s: %v %v", v, who, a, b)
			}
		}
		for _, r := range aid.Values() {
			c, k := clock.New(), token.New()
			x, e := limit.Deadline(th, c, k, 3)
			cancelled := x.Cancel(th, r)
			rang, _ := c.Advance(th, 3)
			want := r
			if r < 1 {
				want = limit.Late
			}
			if x.Reason(th) != want || e != api.OK || cancelled != (r > 0) || rang != aid.Digit(r < 1) || k.Reason(th) != 0 || x == k {
				t.Errorf("P17.2: the reason %d, by %s: %d", r, who, x.Reason(th))
			}
		}
	})
}

// TestErrors: whatever error it comes to is handed on, just that one, be it that of another one that was late.
func TestErrors(t *testing.T) {
	by(t, func(who string, th *gate.Thread) {
		for i, e := range append(aid.Errors(), &fault.Late{Due: 3}) {
			f, c := future.New(), clock.New()
			g, _ := limit.Within(th, c, f, 3)
			f.Complete(th, 7, e)
			h, _ := limit.Within(th, c, f, 3)
			rang, _ := c.Advance(th, 3)
			if a, b := aid.Told(g.Await(th)), aid.Told(h.Await(th)); a != aid.Told(0, e) || a != b || rang != 0 {
				t.Errorf("P17.1: the error number %d, by %s: %v %v; %d ring", i, who, a, b, rang)
			}
		}
		f := future.New()
		g, _ := limit.Within(th, clock.New(), f, 3)
		f.Complete(th, 5, aid.Awkward{io.EOF})
		if _, e := g.Await(th); e.(aid.Awkward)[0] != io.EOF {
			t.Errorf("P17.1: an error that is not to be asked, by %s", who)
		}
	})
}

// TestLateIsFound: what is late has an error of its own, with its due, that is found as one of time, and is the same to all.
func TestLateIsFound(t *testing.T) {
	by(t, func(who string, th *gate.Thread) {
		c, f := clock.New(), future.New()
		g, _ := limit.Within(th, c, f, 3)
		h, _ := limit.Within(th, c, f, 3)
		c.Advance(th, 7)
		var seen []error
		for _, x := range []*future.Future{g, h} {
			v, e := x.Await(th)
			_, again := x.Await(th)
			late, is := e.(*fault.Late)
			if v != 0 || !is || late.Due != 3 || e != again || !errors.Is(e, api.ErrTime) || fault.Class(e) != api.ErrTime || e.Error() != "late 3" {
				t.Errorf("P17.1: by %s: %d %#v", who, v, e)
			}
			seen = append(seen, e)
		}
		if seen[0] == seen[1] {
			t.Errorf("R5: two have one error, by %s", who)
		}
	})
}

// tells: calls that tell all of a world: what its futures came to, and what they have room for, its tokens' reasons, and what is in them; the times, which slots are free, so many of them, and with which states, and what is set, by its ringing. Then all else is completed and cancelled.
func (w *world) tells(slots int) (l []call) {
	asks := func() {
		for i := range w.futures {
			l = append(l, peeks(i), thens(i, quiet("t"+strconv.Itoa(i))))
		}
		for i := range w.tokens {
			l = append(l, reasons(i), onCancels(i, quiet("t"+strconv.Itoa(i))))
		}
	}
	asks()
	for i := range w.clocks {
		l = slices.Concat(l, []call{nows(i)}, timers(slots, i, 1<<62), []call{advances(i, 1), nows(i), advances(i, math.MaxInt64)})
	}
	asks()
	for i := range w.futures {
		l = append(l, completes(i, 100+int64(i), nil))
	}
	for i := range w.tokens {
		l = append(l, cancels(i, 100+int64(i)))
	}
	asks()
	return l
}

// TestSequences: all short rows of calls, free and by a thread.
func TestSequences(t *testing.T) {
	calls := []call{
		withins(0, 0, 2), advances(0, 2), completes(0, 1, nil), deadlines(0, 0, 1), cancels(0, 7), cancels(1, 1), thens(1, busy("A", withins(0, 0, 0), advances(0, 1))), onCancels(1, busy("B", deadlines(0, 0, 0), completes(0, 4, nil))), withins(0, 1, 0), deadlines(0, 1, 1), completes(1, 3, nil),
		awaits(1), waits(1), advances(0, 1), completes(0, 2, io.EOF), withins(0, 0, 1<<62),
	}
	for _, l := range append(aid.Rows(calls[:11], 4), aid.Rows(calls, 3)...) {
		l = append(l, advances(0, math.MaxInt64), sets(0, 1<<62, quiet("s")), peeks(1), reasons(1))
		w, as := newWorld(made, usual), newWorld(words, usual)
		want := as.alone(l...)
		if got := w.alone(l...); got != want || len(w.follows(true)) != 0 {
			t.Fatalf("P17.1, P17.2: free: %v: %s, not %s: %v", texts(l), got, want, w.follows(true))
		}
		w = newWorld(made, usual)
		w.awake = true
		if r, got := w.one(l...); got != want || len(w.follows(true)) != 0 || r.End != api.Over {
			t.Fatalf("P17.1, P17.2: by a thread: %v: %s, not %s: %v", texts(l), got, want, w.follows(true))
		}
	}
}

// TestRefused: what is refused for its arguments makes no access, and changes nothing.
func TestRefused(t *testing.T) {
	calls := []call{
		withins(-1, 0, 3), withins(-2, 0, 3), withins(0, -1, 3), withins(0, -2, 3), withins(-1, -1, 3), withins(-2, -2, -3), withins(0, 0, -1), withins(0, 0, math.MinInt64), withins(0, 0, -1<<62), withins(-1, 0, -1), withins(0, -2, -1),
		deadlines(-1, 0, 3), deadlines(-2, 0, 3), deadlines(0, -1, 3), deadlines(0, -2, 3), deadlines(-1, -1, 3), deadlines(-2, -2, -3), deadlines(0, 0, -1), deadlines(0, 0, math.MinInt64), deadlines(0, 0, -1<<62), deadlines(-1, 0, -1), deadlines(0, -2, -1),
	}
	for what, first := range map[string][]call{
		"new": nil, "with others": {withins(0, 0, 3), deadlines(0, 0, 3), advances(0, 1)}, "with no slot": timers(16, 0, 9), "full": slices.Concat(crowd(64, 0), tribe(64, 0)),
		"with room for one": slices.Concat(timers(15, 0, 9), crowd(63, 0), tribe(63, 0)), "filled, and cancelled": {completes(0, 5, nil), cancels(0, 7)}, "at the last time": {advances(0, math.MaxInt64)},
		"busy": {sets(0, 0, fallen("F")), advances(0, 1)},
	} {
		w, as := ours(usual, first...), newWorld(words, usual)
		as.alone(first...)
		for _, c := range calls {
			report, got := w.one(c)
			if len(report.Log) != 0 || report.End != api.Over || got != as.makes(nil, c) || got != w.makes(nil, c) || !strings.HasSuffix(got, ":ErrNil") && !strings.HasSuffix(got, ":ErrArg") {
				t.Errorf("R2: %s: %v: %s: %s", what, c, got, aid.Texts(report.Log))
			}
		}
		if got, want := w.alone(w.tells(17)...), as.alone(as.tells(17)...); got != want || len(w.follows(true)) != 0 {
			t.Errorf("R2: %s: %s, not %s: %v", what, got, want, w.follows(true))
		}
	}
}

// TestNone: clocks, futures and tokens that are none, by threads of every kind: no access, and nothing is left with those that stand beside them.
func TestNone(t *testing.T) {
	c, f, k := clock.New(), future.New(), token.New()
	ds := []int64{0, 1, 1 << 62, math.MaxInt64, -1, math.MinInt64}
	asked := func(who string, th *gate.Thread) {
		for what, no := range map[string]*clock.Clock{"nil": nil, "made by no call": {}, "made by new": new(clock.Clock)} {
			for _, d := range ds {
				g, e := limit.Within(th, no, f, d)
				x, q := limit.Deadline(th, no, k, d)
				if g != nil || x != nil || e != api.ErrNil || q != api.ErrNil {
					t.Errorf("P17.1, P17.2: a clock, %s, and %d, by %s: %d %d", what, d, who, e, q)
				}
			}
		}
		for what, no := range map[string]*future.Future{"nil": nil, "made by no call": {}, "made by new": new(future.Future)} {
			for _, d := range ds {
				if g, e := limit.Within(th, c, no, d); g != nil || e != api.ErrNil {
					t.Errorf("P17.1: a future, %s, and %d, by %s: %d", what, d, who, e)
				}
			}
		}
		for what, no := range map[string]*token.Token{"nil": nil, "made by no call": {}, "made by new": new(token.Token)} {
			for _, d := range ds {
				if x, e := limit.Deadline(th, c, no, d); x != nil || e != api.ErrNil {
					t.Errorf("P17.2: a token, %s, and %d, by %s: %d", what, d, who, e)
				}
			}
		}
		for _, d := range []int64{-1, -2, -1 << 62, math.MinInt64} {
			g, e := limit.Within(th, c, f, d)
			x, q := limit.Deadline(th, c, k, d)
			if g != nil || x != nil || e != api.ErrArg || q != api.ErrArg {
				t.Errorf("P17.1, P17.2: %d, by %s: %d %d", d, who, e, q)
			}
		}
	}
	for _, f := range aid.Idle(asked) {
		t.Errorf("R3: %s", f)
	}
	r := gate.Run(nil, 99, func(th *gate.Thread) {
		f.Complete(th, 5, nil)
		k.Cancel(th, 7)
		c.Advance(th, 3)
	})
	want := joined("0 cas c0 0 1: 0 ok; 0 store c0 2: 1; 0 swap c1 -1: 0; 0 cas c2 0 7: 0 ok; 0 swap c3 -1: 0; 0 cas c4 0 1: 0 ok; 0 load c5: 0; 0 store c5 3: 0", loads(6, 16), "0 store c4 0: 1")
	if aid.Texts(r.Log) != want {
		t.Errorf("R2: %s, not %s", aid.Texts(r.Log), want)
	}
}
