package token_test

import (
	"math"
	"slices"
	"strconv"
	"strings"
	"testing"

	"treadle/aid"
	"treadle/api"
	"treadle/gate"
	"treadle/token"
)

// by calls f with each thread that does not live, and with one that does.
func by(t *testing.T, f func(who string, th *gate.Thread)) {
	t.Helper()
	for _, f := range aid.By(f) {
		t.Errorf("R1: %s", f)
	}
}

// TestExamples: the chapter's table, by each thread that does not live, and by one that does.
func TestExamples(t *testing.T) {
	by(t, func(who string, th *gate.Thread) { examples(t, who, th) })
}

func examples(t *testing.T, what string, th *gate.Thread) {
	f := quiet("f")
	w := made()
	for _, row := range []struct {
		calls []call
		want  string
	}{
		{[]call{bears(0), bears(1), sets(0, f), cancels(1, 3), cancels(0, 5)}, "#1 #2 ok yes f:5( ) yes"},
		{[]call{asks(0), asks(1), asks(2), cancels(0, 7), bears(0), asks(3), cancels(3, 1)}, "5 3 3 no #3 5 no"},
		{[]call{sets(0, f), waits(0)}, "f:5( ) ok woke:5"},
		{[]call{asks(0), asks(1), asks(2), asks(3)}, "5 3 3 5"},
	} {
		if got := w.makes(th, row.calls...); got != row.want {
			t.Errorf("P11.1 to P11.6: by %s: %v: %s, not %s", what, row.calls, got, row.want)
		}
	}
	w = made()
	if got, want := w.makes(th, cancels(0, 0), cancels(0, -1), asks(0)), "no no 0"; got != want {
		t.Errorf("P11.4: by %s: %s, not %s", what, got, want)
	}
	if got, want := w.makes(th, append(chain(65, 0), asks(64))...), news(1, 64)+" ErrDeep 0"; got != want {
		t.Errorf("P11.2: by %s: %s, not %s", what, got, want)
	}
}

// news: the texts of tokens that are made, from this number on.
func news(from, n int) string {
	var l []string
	for i := range n {
		l = append(l, "#"+strconv.Itoa(from+i))
	}
	return strings.Join(l, " ")
}

// stepped: a call of one thread behind others, and its accesses.
type stepped struct {
	first []call // free, ahead of it
	c     call
	log   string
	want  string
}

// TestSteps: of each call, where nobody else goes between them.
func TestSteps(t *testing.T) {
	f, g := quiet("f"), quiet("g")
	dead := []call{cancels(0, 5)}
	deep := chain(64, 0)
	steps(t, []stepped{
		{nil, bears(0), "0 load c0: 0; 0 add c1 1: 0; 0 cas c0 0 1: 0 ok", "#1"},
		{[]call{sets(0, f), bears(0), bears(1)}, bears(0), "0 load c0: 2; 0 add c1 1: 2; 0 cas c0 2 3: 2 ok", "#3"},
		{fills(63, 0), bears(0), "0 load c0: 63; 0 add c1 1: 63; 0 cas c0 63 64: 63 ok", "#22"},
		{fills(64, 0), bears(0), "0 load c0: 64; 0 add c1 1: 64", "ErrFull"},
		{fills(66, 0), bears(0), "0 load c0: 64; 0 add c1 1: 66", "ErrFull"},
		{dead, bears(0), "0 load c0: -1; 0 load c1: 5; 0 store c2 5: 0; 0 swap c3 -1: 0", "#1"},
		{append(fills(64, 0), dead...), bears(0), "0 load c0: -1; 0 load c1: 5; 0 store c2 5: 0; 0 swap c3 -1: 0", "#22"},
		{append(dead, bears(0)), bears(1), "0 load c0: -1; 0 load c1: 5; 0 store c2 5: 0; 0 swap c3 -1: 0", "#2"},
		{deep[:63], bears(63), "0 load c0: 0; 0 add c1 1: 0; 0 cas c0 0 1: 0 ok", "#64"},
		{deep, bears(64), "", "ErrDeep"},
		{deep, bears(65), "", "ErrNil"},
		{append(deep, dead...), bears(64), "", "ErrDeep"},
		{append(fills(64, 0), cancels(0, 5)), bears(-1), "", "ErrNil"},
		{nil, sets(0, f), "0 load c0: 0; 0 add c1 1: 0; 0 cas c0 0 1: 0 ok", "ok"},
		{[]call{sets(0, f), bears(0), bears(1)}, sets(0, g), "0 load c0: 2; 0 add c1 1: 2; 0 cas c0 2 3: 2 ok", "ok"},
		{deep, sets(64, f), "0 load c0: 0; 0 add c1 1: 0; 0 cas c0 0 1: 0 ok", "ok"},
		{fills(63, 0), sets(0, g), "0 load c0: 63; 0 add c1 1: 63; 0 cas c0 63 64: 63 ok", "ok"},
		{fills(64, 0), sets(0, g), "0 load c0: 64; 0 add c1 1: 64", "ErrFull"},
		{fills(66, 0), sets(0, g), "0 load c0: 64; 0 add c1 1: 66", "ErrFull"},
		{dead, sets(0, f), "0 load c0: -1; 0 load c1: 5", "f:5( ) ok"},
		{append(fills(64, 0), dead...), sets(0, f), "0 load c0: -1; 0 load c1: 5", "f:5( ) ok"},
		{append(dead, bears(0)), sets(1, f), "0 load c0: -1; 0 load c1: 5", "f:5( ) ok"},
		{dead, sets(0, busy("f", asks(0), bears(0))), "0 load c0: -1; 0 load c1: 5; 0 load c1: 5; 0 load c0: -1; 0 load c1: 5; 0 store c2 5: 0; 0 swap c3 -1: 0", "f:5( 5 #1 ) ok"},
		{dead, sets(0, fallen("f")), "0 load c0: -1; 0 load c1: 5", "f:5( fell:f"},
		{nil, sets(0, nil), "", "ErrArg"},
		{dead, sets(0, nil), "", "ErrArg"},
		{fills(64, 0), sets(0, nil), "", "ErrArg"},
		{nil, sets(1, nil), "", "ErrNil"},
		{nil, asks(0), "0 load c0: 0", "0"},
		{dead, asks(0), "0 load c0: 5", "5"},
		{append(dead, bears(0)), asks(1), "0 load c0: 5", "5"},
		{nil, asks(1), "", "0"},
		{dead, waits(0), "0 load c0: 5", "woke:5"},
		{append(dead, bears(0)), waits(1), "0 load c0: 5", "woke:5"},
		{nil, waits(1), "", "woke:0"},
	})
}

// TestStepsOfCancel: down a tree, and where there is nothing to be done.
func TestStepsOfCancel(t *testing.T) {
	quiets := func(names ...string) (l []*deed) {
		for _, s := range names {
			l = append(l, quiet(s))
		}
		return l
	}
	d := quiets("A", "B", "C", "D", "E")
	tree := []call{sets(0, d[0]), bears(0), sets(0, d[1]), bears(1), sets(1, d[2]), sets(2, d[3]), sets(1, d[4]), bears(0)}
	steps(t, []stepped{
		{nil, cancels(0, 5), "0 cas c0 0 5: 0 ok; 0 swap c1 -1: 0", "yes"},
		{nil, cancels(0, math.MaxInt64), "0 cas c0 0 9223372036854775807: 0 ok; 0 swap c1 -1: 0", "yes"},
		{nil, cancels(0, 1), "0 cas c0 0 1: 0 ok; 0 swap c1 -1: 0", "yes"},
		{nil, cancels(0, 0), "", "no"},
		{nil, cancels(0, -1), "", "no"},
		{nil, cancels(0, math.MinInt64), "", "no"},
		{nil, cancels(1, 5), "", "no"},
		{nil, cancels(1, 0), "", "no"},
		{[]call{cancels(0, 5)}, cancels(0, 5), "0 cas c0 0 5: 5 no", "no"},
		{[]call{cancels(0, 5)}, cancels(0, 7), "0 cas c0 0 7: 5 no", "no"},
		{[]call{cancels(0, 5)}, cancels(0, 0), "", "no"},
		{[]call{bears(0), cancels(0, 5)}, cancels(1, 7), "0 cas c0 0 7: 5 no", "no"},
		{[]call{cancels(0, 5), bears(0)}, cancels(1, 7), "0 cas c0 0 7: 5 no", "no"},
		{[]call{sets(0, d[0])}, cancels(0, 5), "0 cas c0 0 5: 0 ok; 0 swap c1 -1: 1", "A:5( ) yes"},
		{[]call{sets(0, d[0]), sets(0, d[1]), sets(0, d[0])}, cancels(0, 5), "0 cas c0 0 5: 0 ok; 0 swap c1 -1: 3", "A:5( ) B:5( ) A:5( ) yes"},
		{[]call{sets(0, busy("A", asks(0)))}, cancels(0, 5), "0 cas c0 0 5: 0 ok; 0 swap c1 -1: 1; 0 load c0: 5", "A:5( 5 ) yes"},
		{[]call{sets(0, fallen("A")), bears(0), sets(0, d[1])}, cancels(0, 5), "0 cas c0 0 5: 0 ok; 0 swap c1 -1: 3", "A:5( fell:A"},
		{append(tree, cancels(0, 4)), cancels(0, 5), "0 cas c0 0 5: 4 no", "no"},
		{tree, cancels(2, 5), "0 cas c0 0 5: 0 ok; 0 swap c1 -1: 1", "D:5( ) yes"},
		{tree, cancels(3, 5), "0 cas c0 0 5: 0 ok; 0 swap c1 -1: 0", "yes"},
		{tree, cancels(1, 5), "0 cas c0 0 5: 0 ok; 0 swap c1 -1: 3; 0 cas c2 0 5: 0 ok; 0 swap c3 -1: 1", "D:5( ) C:5( ) E:5( ) yes"},
		{tree, cancels(0, 5), "0 cas c0 0 5: 0 ok; 0 swap c1 -1: 4; 0 cas c2 0 5: 0 ok; 0 swap c3 -1: 3; 0 cas c4 0 5: 0 ok; 0 swap c5 -1: 1; 0 cas c6 0 5: 0 ok; 0 swap c7 -1: 0", "A:5( ) D:5( ) C:5( ) E:5( ) B:5( ) yes"},
		{append(tree, cancels(2, 3)), cancels(0, 5), "0 cas c0 0 5: 0 ok; 0 swap c1 -1: 4; 0 cas c2 0 5: 0 ok; 0 swap c3 -1: 3; 0 cas c4 0 5: 3 no; 0 cas c5 0 5: 0 ok; 0 swap c6 -1: 0", "A:5( ) C:5( ) E:5( ) B:5( ) yes"},
		{append(tree, cancels(1, 3)), cancels(0, 5), "0 cas c0 0 5: 0 ok; 0 swap c1 -1: 4; 0 cas c2 0 5: 3 no; 0 cas c3 0 5: 0 ok; 0 swap c4 -1: 0", "A:5( ) B:5( ) yes"},
	})
}

func steps(t *testing.T, rows []stepped) {
	t.Helper()
	for _, row := range rows {
		w := made(row.first...)
		report, got := alone(w, row.c)
		if log := aid.Texts(report.Log); log != row.log || got != row.want || report.End != api.Over {
			t.Errorf("P11.1 to P11.6: %v behind %v:\n got %s: %s\nwant %s: %s", row.c, row.first, got, log, row.want, row.log)
		}
	}
}

// TestSleeps: who waits for a token that lives sleeps at its reason; nobody else is there who would wake him.
func TestSleeps(t *testing.T) {
	w := made(bears(0), sets(0, quiet("A")))
	for of := range 2 {
		report, got := alone(w, waits(of))
		if aid.Texts(report.Log) != "0 load c0: 0" || aid.Texts(report.Left) != "0 park c0 0: 0" || report.End != api.Dead || got != "" {
			t.Errorf("P11.6: %d: %s: %+v", of, got, report)
		}
	}
	if got, want := w.makes(nil, asks(0), asks(1), cancels(0, 5)), "0 0 A:5( ) yes"; got != want {
		t.Errorf("P11.6: behind that: %s, not %s", got, want)
	}
}

// TestOneTooMany: a token takes 64 children and functions, whichever they are, and not one more, again and again; when it is cancelled, those are cancelled and called, in their order, and others are born so, or called at once.
func TestOneTooMany(t *testing.T) {
	for _, children := range []int{0, 1, 7, 32, 63, 64} {
		var calls []call
		want := ""
		for i := range 64 {
			if i < children {
				calls = append(calls, bears(0), sets(1+i, quiet("c"+strconv.Itoa(i))))
				want += "c" + strconv.Itoa(i) + ":9( ) "
			} else {
				calls = append(calls, sets(0, quiet("f"+strconv.Itoa(i))))
				want += "f" + strconv.Itoa(i) + ":9( ) "
			}
		}
		w := made()
		if got := w.makes(nil, calls...); strings.Contains(got, "Err") {
			t.Fatalf("P11.2, P11.3: %d children: %s", children, got)
		}
		for i := range 200 {
			report, got := alone(w, bears(0), sets(0, quiet("too many")))
			n := strconv.Itoa(64 + 4*i)
			log := "0 load c0: 64; 0 add c1 1: " + n + "; 0 load c0: 64; 0 add c1 1: " + strconv.Itoa(65+4*i)
			if aid.Texts(report.Log) != log || got != "ErrFull ErrFull" {
				t.Fatalf("P11.2, P11.3: %d children: behind %s: %s: %s", children, n, got, aid.Texts(report.Log))
			}
			if got := w.makes(nil, sets(0, quiet("too many")), bears(0), asks(0)); got != "ErrFull ErrFull 0" {
				t.Fatalf("P11.2, P11.3: %d children: behind %s: %s", children, n, got)
			}
		}
		want += "yes " + news(1+children, 100) + strings.Repeat(" g:9( ) ok", 100)
		calls = slices.Concat([]call{cancels(0, 9)}, slices.Repeat([]call{bears(0)}, 100), slices.Repeat([]call{sets(0, quiet("g"))}, 100))
		if got := w.makes(nil, calls...); got != want {
			t.Errorf("P11.4: %d children: %s\nnot %s", children, got, want)
		}
		for i := range 1 + children + 100 {
			if got := w.makes(nil, asks(i)); got != "9" {
				t.Errorf("P11.4: %d children: the token %d: %s", children, i, got)
			}
		}
	}
}

// TestDeep: how deep a token is says whether it may have a child, whether it lives or not; a Cancel goes down to the deepest.
func TestDeep(t *testing.T) {
	for from := range 65 {
		w := made(chain(64, 0)...)
		var calls []call
		var called, lives []string
		for i := range 65 {
			calls = append(calls, sets(i, quiet("f"+strconv.Itoa(i))))
			if i < from {
				lives = append(lives, "0")
			} else {
				called = append([]string{"f" + strconv.Itoa(i) + ":7( )"}, called...) // a child is ahead of the function
			}
		}
		w.makes(nil, calls...)
		want := "ErrDeep " + strings.Join(called, " ") + " yes no ErrDeep"
		if got := w.makes(nil, bears(64), cancels(from, 7), cancels(64, 8), bears(64)); got != want {
			t.Fatalf("P11.2, P11.4: from %d: %s\nnot %s", from, got, want)
		}
		calls = nil
		for i := range 65 {
			calls = append(calls, asks(i))
		}
		want = strings.Join(append(lives, slices.Repeat([]string{"7"}, 65-from)...), " ")
		if got := w.makes(nil, calls...); got != want {
			t.Errorf("P11.4: from %d: %s\nnot %s", from, got, want)
		}
		below := 64 - from // so many may be born, each of the one ahead of it
		if below == 0 {
			continue
		}
		calls = append(append([]call{bears(from)}, chain(below-1, 65)...), bears(64+below), asks(64+below), cancels(64+below, 3))
		want = news(65, below) + " ErrDeep 7 no"
		if got := w.makes(nil, calls...); got != want {
			t.Errorf("P11.2: born below %d: %s\nnot %s", from, got, want)
		}
	}
}

// TestOneReason: a token has one for ever, whoever cancels it again, or one above it, or one that was born below it.
func TestOneReason(t *testing.T) {
	for _, first := range reasons() {
		for _, second := range reasons() {
			calls := []call{bears(0), bears(1), cancels(1, first), cancels(1, second), asks(0), asks(1), asks(2), bears(1), cancels(3, second), asks(3), cancels(0, second), cancels(0, first), asks(0), asks(1), asks(2), asks(3)}
			w, as := made(), newWorld(&plain{}, nil)
			if got, want := w.makes(nil, calls...), as.makes(nil, calls...); got != want {
				t.Errorf("P11.4: %d and %d: %s, not %s", first, second, got, want)
			}
		}
	}
	w := made(bears(0), bears(1), cancels(1, math.MaxInt64))
	if got, want := w.makes(nil, cancels(1, 1), cancels(2, 1), cancels(0, 2), cancels(0, math.MaxInt64), asks(0), asks(1), asks(2)), "no no yes no 2 9223372036854775807 9223372036854775807"; got != want {
		t.Errorf("P11.4: %s, not %s", got, want)
	}
}

// TestRefused: what is refused changes nothing but the count of places that are given out.
func TestRefused(t *testing.T) {
	none := fallen("never")
	for what, first := range map[string][]call{
		"new": nil, "a tree": append(chain(3, 0), sets(0, quiet("A")), sets(2, quiet("B"))), "full": fills(64, 0), "deep": chain(64, 0),
		"cancelled": {bears(0), cancels(0, 5)}, "born cancelled": {cancels(0, 5), bears(0), bears(1)}, "fell": {bears(0), sets(0, fallen("A")), cancels(0, 5)},
	} {
		var calls []call
		for _, n := range reasons() {
			if n < 1 {
				calls = append(calls, cancels(0, n), cancels(1, n), cancels(64, n))
			}
			calls = append(calls, cancels(-1, n))
		}
		calls = append(calls, sets(0, nil), sets(1, nil), sets(-1, nil), sets(-1, none), bears(-1), asks(-1), waits(-1))
		if what == "deep" {
			calls = append(calls, bears(64), sets(64, nil))
		}
		w, as := made(first...), newWorld(&plain{}, nil, first...)
		for _, c := range calls {
			report, got := alone(w, c)
			if len(report.Log) != 0 || got != as.makes(nil, c) || got != w.makes(nil, c) {
				t.Errorf("R2: %s: %v: %s: %s", what, c, got, aid.Texts(report.Log))
			}
		}
		l := tells(len(as.all))
		if got, want := w.makes(nil, l...), as.makes(nil, l...); got != want {
			t.Errorf("R2: %s: %s, not %s", what, got, want)
		}
	}
}

// TestNone: tokens that are none, by threads of every kind: no access, and nothing is called.
func TestNone(t *testing.T) {
	var null *token.Token
	never := fallen("never")
	asked := func(who string, th *gate.Thread) {
		for what, k := range map[string]*token.Token{"nil": null, "made by no call": {}, "made by new": new(token.Token)} {
			w := newWorld(k, th)
			for _, n := range reasons() {
				calls := []call{asks(0), bears(0), sets(0, never), sets(0, nil), cancels(0, n), asks(0), waits(0), bears(0), sets(0, never)}
				if got, want := w.makes(th, calls...), "0 ErrNil ErrNil ErrNil no 0 woke:0 ErrNil ErrNil"; got != want {
					t.Errorf("R3: %s, by %s: %v: %s", what, who, calls, got)
				}
			}
		}
	}
	for _, f := range aid.Idle(asked) {
		t.Errorf("R3: %s", f)
	}
}

// TestNotLiving: a call that is handed a thread that does not live makes no access of the thread in whose goroutine it is, nor do the functions that are called in it.
func TestNotLiving(t *testing.T) {
	for what, th := range aid.NotLiving() {
		w := made()
		got := ""
		r := gate.Run(nil, 9, func(*gate.Thread) {
			got = w.makes(th, bears(0), sets(1, busy("A", asks(0), bears(1), cancels(0, 9))), bears(1), asks(0), cancels(0, 5), waits(1), asks(2), sets(2, quiet("B")), bears(2))
		})
		if want := "#1 ok #2 0 A:5( 5 #3 no ) yes woke:5 5 B:5( ) ok #4"; got != want || len(r.Log) != 0 || r.End != api.Over {
			t.Errorf("P11.1 to P11.6: %s: %s, not %s: %+v", what, got, want, r)
		}
	}
}

// TestEachIsItsOwn: what is done to one token is not seen in others but those below it.
func TestEachIsItsOwn(t *testing.T) {
	ahead := made()
	full, fell := made(fills(66, 0)...), made(sets(0, fallen("A")), bears(0), cancels(0, 3))
	for what, w := range map[string]*world[*token.Token]{"made ahead": ahead, "made behind": made()} {
		as := newWorld(&plain{}, nil)
		calls := append([]call{bears(0), sets(1, quiet("A")), bears(1), cancels(2, 4)}, tells(3)...)
		if _, got := alone(w, calls...); got != as.makes(nil, calls...) {
			t.Errorf("P11.1: %s: %s", what, got)
		}
	}
	if got, want := full.makes(nil, asks(0), bears(0), sets(0, quiet("B"))), "0 ErrFull ErrFull"; got != want {
		t.Errorf("P11.1: %s", got)
	}
	if got, want := fell.makes(nil, asks(0), asks(1), bears(0), bears(1)), "3 0 #2 #3"; got != want {
		t.Errorf("P11.1: %s", got)
	}
	// Siblings, and those above, live on; one that has no room says nothing of its children.
	w := made(append(fills(63, 0), bears(0), bears(22), bears(22), cancels(23, 6))...)
	if got, want := w.makes(nil, asks(0), asks(22), asks(23), asks(24), bears(22), bears(24), bears(23), bears(0), asks(25), asks(26), asks(27)), "0 0 6 0 #25 #26 #27 ErrFull 0 0 6"; got != want {
		t.Errorf("P11.4: %s, not %s", got, want)
	}
}
