package future_test

import (
	"io"
	"slices"
	"strings"
	"testing"

	"treadle/aid"
	"treadle/api"
	"treadle/future"
	"treadle/gate"
)

// meeting: threads that meet at futures, each with its own calls.
type meeting struct {
	what  string
	first []call // free, ahead of the run
	calls [][]call
	picks []int
	log   string
	told  string // in the order of the run, whoever it is
	left  string // who sleeps for good
	then  string // what all futures came to
}

func (m meeting) look(t *testing.T) {
	t.Helper()
	w := ours(2, m.first...)
	from := len(w.story)
	r := gate.Run(m.picks, api.MaxTurns, w.bodies(m.calls)...)
	end := api.Over
	if m.left != "" {
		end = api.Dead
	}
	if s := w.story[from:].String(); aid.Texts(r.Log) != m.log || s != m.told || aid.Texts(r.Left) != m.left || r.End != end {
		t.Errorf("P14.1 to P14.7: %s:\n got %s, end %d, left %s: %s\nwant %s: %s", m.what, aid.Texts(r.Log), r.End, aid.Texts(r.Left), s, m.log, m.told)
	}
	if then := w.cameTo(); then != m.then || len(w.follows(end == api.Over)) != 0 {
		t.Errorf("P14.1 to P14.7: %s: behind it %s, not %s: %v", m.what, then, m.then, w.follows(end == api.Over))
	}
}

// TestAmongOthers: threads that meet in the midst of their calls.
func TestAmongOthers(t *testing.T) {
	type goes = [2]int
	a, b := quiet("A"), quiet("B")
	for _, m := range []meeting{
		{"two who complete: the second one comes ahead of the Store", nil, [][]call{{completes(0, 1, nil)}, {completes(0, 2, nil), peeks(0)}}, []int{0, 1, 1, 0, 0},
			"0 cas c0 0 1: 0 ok; 1 cas c0 0 1: 1 no; 1 load c0: 1; 0 store c0 2: 1; 0 swap c1 -1: 0", "complete0:no peek0:none complete0:yes", "", "peek0:1 peek1:none"},
		{"two who complete: the second one comes ahead of the closing", nil, [][]call{{completes(0, 1, io.EOF)}, {completes(0, 2, nil), peeks(0)}}, []int{0, 0, 1, 1, 0},
			"0 cas c0 0 1: 0 ok; 0 store c0 3: 1; 1 cas c0 0 1: 3 no; 1 load c0: 3; 0 swap c1 -1: 0", "complete0:no peek0:EOF complete0:yes", "", "peek0:EOF peek1:none"},
		{"a Claim ahead of a Complete", nil, [][]call{{claims(0), adds(), fills(0, 1, nil)}, {completes(0, 2, nil), fills(0, 3, nil)}}, []int{0, 1, 0, 0, 0},
			"0 cas c0 0 1: 0 ok; 1 cas c0 0 1: 1 no; 0 add c1 1: 0; 0 store c0 2: 1; 0 swap c2 -1: 0", "claim0:yes complete0:no fill0:no add:1 fill0:yes", "", "peek0:1 peek1:none"},
		{"a Claim beside a Complete comes too late", nil, [][]call{{claims(0), fills(0, 1, nil)}, {completes(0, 2, nil)}}, []int{1, 0, 0, 0},
			"1 cas c0 0 1: 0 ok; 0 cas c0 0 1: 1 no; 1 store c0 2: 1; 1 swap c1 -1: 0", "claim0:no fill0:no complete0:yes", "", "peek0:2 peek1:none"},
		{"a function comes ahead of the Store", nil, [][]call{{completes(0, 1, nil)}, {thens(0, a)}}, aid.Goes(goes{0, 1}, goes{1, 3}, goes{0, 2}),
			"0 cas c0 0 1: 0 ok; 1 load c1: 0; 1 add c2 1: 0; 1 cas c1 0 1: 0 ok; 0 store c0 2: 1; 0 swap c1 -1: 1", "then0:ok A:1( ) complete0:yes", "", "peek0:1 peek1:none"},
		{"a function comes between the Store and the closing: whoever fills calls it", nil, [][]call{{completes(0, 1, nil)}, {peeks(0), thens(0, a)}}, aid.Goes(goes{0, 2}, goes{1, 4}, goes{0, 1}),
			"0 cas c0 0 1: 0 ok; 0 store c0 2: 1; 1 load c0: 2; 1 load c1: 0; 1 add c2 1: 0; 1 cas c1 0 1: 0 ok; 0 swap c1 -1: 1", "peek0:1 then0:ok A:1( ) complete0:yes", "", "peek0:1 peek1:none"},
		{"the list is closed as a function comes: it is called at once", nil, [][]call{{completes(0, 1, nil)}, {thens(0, busy("A", peeks(0)))}}, aid.Goes(goes{1, 2}, goes{0, 3}, goes{1, 9}),
			"1 load c0: 0; 1 add c1 1: 0; 0 cas c2 0 1: 0 ok; 0 store c2 2: 1; 0 swap c0 -1: 0; 1 cas c0 0 1: -1 no; 1 load c0: -1; 1 load c2: 2", "complete0:yes A:1( peek0:1 ) then0:ok", "", "peek0:1 peek1:none"},
		{"two who come: who was put on first is called first, by the filler; the other one is called at once", nil, [][]call{{thens(0, a)}, {thens(0, b), completes(0, 1, nil)}}, aid.Goes(goes{0, 2}, goes{1, 3}, goes{0, 2}, goes{1, 3}, goes{0, 9}),
			"0 load c0: 0; 0 add c1 1: 0; 1 load c0: 0; 1 add c1 1: 1; 1 cas c0 0 2: 0 ok; 0 cas c0 0 1: 2 no; 0 load c0: 2; 1 cas c2 0 1: 0 ok; 1 store c2 2: 1; 1 swap c0 -1: 2; 0 cas c0 2 1: -1 no; 0 load c0: -1", "then0:ok B:1( ) complete0:yes A:1( ) then0:ok", "", "peek0:1 peek1:none"},
		{"two who come, both ahead of the closing", nil, [][]call{{thens(0, a)}, {thens(0, b), completes(0, 1, nil)}}, aid.Goes(goes{0, 2}, goes{1, 3}, goes{0, 3}, goes{1, 9}),
			"0 load c0: 0; 0 add c1 1: 0; 1 load c0: 0; 1 add c1 1: 1; 1 cas c0 0 2: 0 ok; 0 cas c0 0 1: 2 no; 0 load c0: 2; 0 cas c0 2 1: 2 ok; 1 cas c2 0 1: 0 ok; 1 store c2 2: 1; 1 swap c0 -1: 1", "then0:ok then0:ok B:1( ) A:1( ) complete0:yes", "", "peek0:1 peek1:none"},
		{"a function goes on, and others come meanwhile: they are called at once, ahead of the ones that wait", []call{thens(0, busy("C", adds())), thens(0, b)}, [][]call{{completes(0, 1, nil)}, {thens(0, a), awaits(0)}}, aid.Goes(goes{0, 3}, goes{1, 2}, goes{0, 1}),
			"0 cas c0 0 1: 0 ok; 0 store c0 2: 1; 0 swap c1 -1: 2; 1 load c1: -1; 1 load c0: 2; 0 add c2 1: 0", "C:1( A:1( ) then0:ok await0:1 add:1 ) B:1( ) complete0:yes", "", "peek0:1 peek1:none"},
		{"who awaits ahead of the claim sleeps on twice", nil, [][]call{{awaits(0)}, {completes(0, 1, nil)}}, []int{0, 0, 0, 0, 0, 0},
			"0 load c0: 0; 1 cas c0 0 1: 0 ok; 0 park c0 0: 1; 1 store c0 2: 1; 0 park c0 1: 2; 1 swap c1 -1: 0", "await0:1 complete0:yes", "", "peek0:1 peek1:none"},
		{"who awaits ahead of the claim, and goes behind the Store", nil, [][]call{{awaits(0)}, {completes(0, 1, nil)}}, []int{0, 1, 1, 0, 1},
			"0 load c0: 0; 1 cas c0 0 1: 0 ok; 1 store c0 2: 1; 0 park c0 0: 2; 1 swap c1 -1: 0", "await0:1 complete0:yes", "", "peek0:1 peek1:none"},
		{"three who await, and one who fills", nil, [][]call{{awaits(0)}, {awaits(0)}, {awaits(0)}, {claims(0), adds(), fills(0, 4, io.EOF)}}, []int{0, 1, 1, 0, 1, 1, 0, 0, 0, 0},
			"0 load c0: 0; 2 load c0: 0; 3 cas c0 0 1: 0 ok; 0 park c0 0: 1; 2 park c0 0: 1; 3 add c1 1: 0; 1 load c0: 1; 3 store c0 3: 1; 0 park c0 1: 3; 1 park c0 1: 3; 2 park c0 1: 3; 3 swap c2 -1: 0", "claim0:yes add:1 await0:EOF await0:EOF await0:EOF fill0:yes", "", "peek0:EOF peek1:none"},
		{"who claims, and does not fill: who awaits sleeps for good", nil, [][]call{{awaits(0)}, {claims(0), peeks(0)}, {completes(0, 1, nil)}, {awaits(1)}}, []int{0, 0, 0, 0, 0},
			"0 load c0: 0; 1 cas c0 0 1: 0 ok; 0 park c0 0: 1; 1 load c0: 1; 2 cas c0 0 1: 1 no; 3 load c1: 0", "claim0:yes peek0:none complete0:no", "0 park c0 1: 1; 3 park c1 0: 0", "peek0:none peek1:none"},
		{"futures that wait for one another sleep for good", nil, [][]call{{awaits(0), completes(1, 1, nil)}, {awaits(1), completes(0, 1, nil)}}, nil,
			"0 load c0: 0; 1 load c1: 0", "", "0 park c0 0: 0; 1 park c1 0: 0", "peek0:none peek1:none"},
		{"a function that awaits another one is waited for", []call{thens(0, busy("C", awaits(1))), thens(0, b)}, [][]call{{completes(0, 1, nil)}, {awaits(0), completes(1, 6, nil)}}, []int{0, 0, 0, 0, 0},
			"0 cas c0 0 1: 0 ok; 0 store c0 2: 1; 0 swap c1 -1: 2; 0 load c2: 0; 1 load c0: 2; 1 cas c2 0 1: 0 ok; 0 park c2 0: 1; 1 store c2 2: 1; 0 park c2 1: 2; 1 swap c3 -1: 0", "C:1( await0:1 await1:6 ) B:1( ) complete0:yes complete1:yes", "", "peek0:1 peek1:6"},
		{"a Map comes ahead of the closing, and who awaits it is woken", nil, [][]call{{alters(0, plus("M", 1)), awaits(2)}, {completes(0, 5, nil)}}, aid.Goes(goes{1, 2}, goes{0, 4}, goes{1, 3}, goes{0, 1}),
			"1 cas c0 0 1: 0 ok; 1 store c0 2: 1; 0 load c1: 0; 0 add c2 1: 0; 0 cas c1 0 1: 0 ok; 0 load c3: 0; 1 swap c1 -1: 1; 1 cas c3 0 1: 0 ok; 1 store c3 2: 1; 0 park c3 0: 2; 1 swap c4 -1: 0", "map0:#2 M:5 await2:6 complete0:yes", "", "peek0:5 peek1:none peek2:6"},
		{"a Map comes as the list is closed: who maps fills its future", nil, [][]call{{alters(0, fails("M", io.EOF)), peeks(2)}, {completes(0, 5, nil)}}, aid.Goes(goes{0, 2}, goes{1, 3}, goes{0, 9}),
			"0 load c0: 0; 0 add c1 1: 0; 1 cas c2 0 1: 0 ok; 1 store c2 2: 1; 1 swap c0 -1: 0; 0 cas c0 0 1: -1 no; 0 load c0: -1; 0 cas c3 0 1: 0 ok; 0 store c3 3: 1; 0 swap c4 -1: 0; 0 load c3: 3", "complete0:yes M:5 map0:#2 peek2:EOF", "", "peek0:5 peek1:none peek2:EOF"},
		{"somebody fills a Map's future as its function has been called", []call{alters(0, plus("M", 1))}, [][]call{{completes(0, 5, nil)}, {completes(2, 9, nil)}}, aid.Goes(goes{0, 3}, goes{1, 1}, goes{0, 1}, goes{1, 9}),
			"0 cas c0 0 1: 0 ok; 0 store c0 2: 1; 0 swap c1 -1: 1; 1 cas c2 0 1: 0 ok; 0 cas c2 0 1: 1 no; 1 store c2 2: 1; 1 swap c3 -1: 0", "M:5 complete0:yes complete2:yes", "", "peek0:5 peek1:none peek2:9"},
		{"two who come for the last place", slices.Repeat([]call{thens(1, b)}, 63), [][]call{{thens(1, a)}, {alters(1, plus("M", 1))}}, []int{0, 1, 1, 0, 1},
			"0 load c0: 63; 1 load c0: 63; 1 add c1 1: 63; 0 add c1 1: 64; 1 cas c0 63 64: 63 ok", "then1:ErrFull map1:#2", "", "peek0:none peek1:none peek2:none"},
		{"one who looks ahead of the closing, and finds no room behind it, is refused", slices.Repeat([]call{thens(1, b)}, 64), [][]call{{thens(1, a), thens(1, a)}, {completes(1, 5, nil)}}, aid.Goes(goes{0, 1}, goes{1, 3}, goes{0, 9}),
			"0 load c0: 64; 1 cas c1 0 1: 0 ok; 1 store c1 2: 1; 1 swap c0 -1: 64; 0 add c2 1: 64; 0 load c0: -1", strings.Repeat("B:5( ) ", 64) + "complete1:yes then1:ErrFull A:5( ) then1:ok", "", "peek0:none peek1:5"},
	} {
		m.look(t)
	}
}

// TestLate: a thread that stands at whatever access of a call, while another one makes all kinds of calls.
func TestLate(t *testing.T) {
	a, b := quiet("A"), quiet("B")
	firsts := [][]call{
		nil, {thens(0, a), alters(0, plus("M", 1)), thens(2, b)}, {thens(0, busy("C", completes(1, 6, nil), thens(0, b))), thens(1, fallen("F"))}, {claims(0)}, {completes(0, 5, io.EOF)},
		slices.Repeat([]call{thens(0, quiet("E"))}, 63), {alters(1, plus("M", 1)), thens(0, busy("D", completes(1, 8, nil), peeks(1)))},
	}
	calls := [][]call{{completes(0, 1, nil)}, {claims(0), fills(0, 2, io.EOF)}, {thens(0, busy("G", peeks(0), completes(1, 4, nil)))}, {thens(0, fallen("H"))}, {alters(0, fallen("N"))}, {alters(0, plus("O", 3)), awaits(2)}, {awaits(0)}, {peeks(0)}}
	others := [][]call{
		{completes(0, 7, nil)}, {completes(0, 7, io.EOF), thens(0, b)}, {thens(0, b), alters(0, plus("P", 1))}, {claims(0), thens(0, a), fills(0, 3, nil), fills(0, 4, nil)}, {awaits(0)}, {completes(1, 2, nil), completes(0, 3, nil)},
		{thens(0, nil), peeks(0), fills(0, 1, nil)}, {thens(0, a), thens(0, b), completes(0, 2, nil), awaits(0)},
	}
	for _, first := range firsts {
		for _, mine := range calls {
			for _, other := range others {
				for stands := range accesses(first, mine) + 1 {
					p := newPair(t, 2, first)
					r := p.run(t, [][]call{mine, other}, aid.Goes([2]int{0, stands}, [2]int{1, 200}), api.MaxTurns)
					if p.ends(t); t.Failed() || r.End == api.Cut {
						t.Fatalf("behind %v: %v stands at %d, beside %v: %s", texts(first), texts(mine), stands, texts(other), aid.Texts(r.Log))
					}
				}
			}
		}
	}
}

// accesses: how many these calls make, if nobody else goes between them.
func accesses(first, calls []call) int {
	report, _ := alone(ours(2, first...), calls...)
	return report.Turns
}

// TestMany: so many threads that go by turns, at their accesses all at one time.
func TestMany(t *testing.T) {
	const threads = 48
	for seed := range 12 {
		calls := make([][]call, threads)
		for h := range calls {
			of, f := h%4, quiet("f"+string(rune('a'+h)))
			calls[h] = [][]call{
				{completes(of, int64(h), nil), awaits(of)}, {awaits(of), thens(of, f)}, {thens(of, f), alters(of, plus("M", int64(h))), awaits(4)}, {claims(of), thens(of, busy(f.name, completes((of+1)%4, int64(h), io.EOF))), fills(of, int64(h), nil)},
				{alters(of, fallen("N")), completes(of, 3, io.EOF), alters(4, fails("O", io.EOF)), peeks(of)},
			}[(h+seed)%5]
		}
		p := newPair(t, 4, []call{thens(0, busy("y", completes(3, 77, nil))), alters(1, plus("z", 1))})
		r := p.run(t, calls, aid.Spread((seed%2)<<11, 7*(seed+1)), api.MaxTurns)
		if p.ends(t); t.Failed() || r.End != api.Over {
			t.Fatalf("what follows: %d: end %d", seed, r.End)
		}
	}
}

// TestStopped: a thread that is stopped at whatever access of a call: the gate's own panic comes out of it, then and at each later call, and nothing is changed but by what was done.
func TestStopped(t *testing.T) {
	a, b := quiet("A"), quiet("B")
	then := []call{peeks(0), thens(0, b), claims(0), completes(0, 9, nil), peeks(0), awaits(0), peeks(2)}
	const open, claimed, full = "peek0:none then0:ok claim0:yes complete0:no peek0:none await0:sleeps peek2:none", "peek0:none then0:ok claim0:no complete0:no peek0:none await0:sleeps peek2:none", "peek0:none then0:ErrFull claim0:yes complete0:no peek0:none await0:sleeps peek2:none"
	const laid, closed = "peek0:5 then0:ok claim0:no complete0:no peek0:5 await0:5 peek2:none", "peek0:5 B:5( ) then0:ok claim0:no complete0:no peek0:5 await0:5 peek2:none"
	done := []call{completes(0, 5, nil)}
	for _, row := range []struct {
		first []call
		calls []call
		want  []string // what free calls are answered behind so many turns
	}{
		{nil, []call{completes(0, 5, nil)}, []string{open, claimed, laid}},
		{nil, []call{completes(0, 5, io.EOF)}, []string{open, claimed, strings.ReplaceAll(laid, "0:5", "0:EOF")}},
		{nil, []call{claims(0), fills(0, 5, nil)}, []string{open, claimed, laid}},
		{[]call{thens(0, a)}, []call{completes(0, 5, nil)}, []string{open, claimed, laid}},
		{[]call{thens(0, busy("C", adds(), completes(1, 3, nil))), thens(0, a)}, []call{completes(0, 5, nil)}, []string{open, claimed, laid, closed, closed, closed, closed}},
		{[]call{alters(0, plus("M", 1)), thens(0, a)}, []call{completes(0, 5, nil)}, []string{open, claimed, laid, closed, closed, strings.Replace(closed, "peek2:none", "peek2:6", 1)}},
		{nil, []call{thens(0, a)}, []string{open, open, open}},
		{nil, []call{alters(0, plus("M", 1))}, []string{open, open, open}},
		{slices.Repeat([]call{thens(0, a)}, 63), []call{thens(0, a)}, []string{open, open, full}},
		{slices.Repeat([]call{thens(0, a)}, 64), []call{thens(0, a)}, []string{full, full}},
		{done, []call{thens(0, busy("C", adds(), completes(1, 3, nil)))}, []string{closed, closed, closed, closed, closed}},
		{done, []call{alters(0, plus("M", 1))}, []string{closed, closed, closed, closed}},
		{done, []call{completes(0, 6, nil)}, []string{closed}},
		{nil, []call{peeks(0)}, []string{open}},
		{done, []call{awaits(0)}, []string{closed}},
	} {
		for turns, want := range row.want {
			w := ours(2, row.first...)
			k := w.hand()
			_, faults := aid.Stops(turns, func(t *gate.Thread, l []call) {
				for _, c := range l {
					w.does(t, k, c)
				}
			}, row.calls, []call{thens(0, b)}, []call{completes(0, 3, nil)}, []call{claims(0)}, []call{awaits(0)}, []call{peeks(0)}, []call{completes(1, 3, io.EOF)})
			if len(faults) != 0 {
				t.Errorf("R1: %v behind %v, %d turns: %v", texts(row.calls), texts(row.first), turns, faults)
			}
			w.awake = true
			if got := w.makes(nil, then...); got != want || len(w.follows(false)) != 0 {
				t.Errorf("R1, what follows: %v behind %v, %d turns:\nthen %s\n not %s: %v", texts(row.calls), texts(row.first), turns, got, want, w.follows(false))
			}
		}
		if n := accesses(row.first, row.calls); n != len(row.want) {
			t.Errorf("%v behind %v: %d accesses, not %d", texts(row.calls), texts(row.first), n, len(row.want))
		}
	}
}

// TestStoppedAsleep: a thread that is stopped as it sleeps leaves the future as it was; what it calls then is stopped, too.
func TestStoppedAsleep(t *testing.T) {
	w := ours(1)
	k := w.hand()
	stands, faults := aid.Stops(1, func(t *gate.Thread, c call) { w.does(t, k, c) }, awaits(0), awaits(0), completes(0, 3, nil), claims(0), thens(0, quiet("A")), alters(0, plus("M", 1)), peeks(0))
	w.awake = true
	if got, want := w.makes(nil, peeks(0), completes(0, 5, nil), awaits(0)), "peek0:none complete0:yes await0:5"; stands != "0 park c0 0: 0" || len(faults) != 0 || got != want {
		t.Errorf("P14.5, R1: it stands at %s: %v; then %s, not %s", stands, faults, got, want)
	}
}

// TestStoppedFill: a Fill that is stopped ahead of the Store has not filled its promise: whoever has that may still do so, and nothing of it is left. Behind the Store it is filled, and the list stays open for good.
func TestStoppedFill(t *testing.T) {
	for _, is := range [][2]aid.Answer{{aid.Told(0, io.EOF), aid.Told(7, nil)}, {aid.Told(5, nil), aid.Told(0, io.EOF)}, {aid.Told(5, nil), aid.Told(0, nil)}} {
		for turns := range 5 {
			stoppedFill(t, is[0], is[1], turns)
		}
	}
}

// stoppedFill: a Fill with one answer, behind so many turns; then one with another.
func stoppedFill(t *testing.T, one, other aid.Answer, turns int) {
	t.Helper()
	x, called := future.New(), 0
	p := x.Claim(nil)
	x.Then(nil, func(*gate.Thread, int64, error) { called++ })
	var again any
	r := gate.Run(nil, turns, func(t *gate.Thread) {
		defer func() {
			_ = recover()
			again = aid.Caught(func() { p.Fill(t, 6, nil) })
		}()
		p.Fill(t, one.V, one.E)
		x.Peek(t)
		x.Peek(t)
	})
	v, e, done := x.Peek(nil)
	filled := turns > 0
	if gate.Is(again) == filled || len(r.Log) != turns || done != filled || done && aid.Told(v, e) != one {
		t.Errorf("P14.2: %v, %d turns: again: %v; %d %v %v: %+v", one, turns, again, v, e, done, r)
	}
	want := other
	if filled {
		want = one
	}
	if is := p.Fill(nil, other.V, other.E); is == filled || p.Fill(nil, 8, nil) {
		t.Errorf("P14.2: %v, %d turns: then %v: %v", one, turns, other, is)
	}
	if v, e, done := x.Peek(nil); !done || aid.Told(v, e) != want || called != aid.Digit(turns != 1) {
		t.Errorf("P14.2: %v, %d turns, then %v: it comes to %d %v %v; %d are called", one, turns, other, v, e, done, called)
	}
}

// TestFallen: a body that falls beside its calls leaves the futures as they are; calls that it deferred are done.
func TestFallen(t *testing.T) {
	w := ours(2)
	x := w.all[0]
	r := gate.Run([]int{0, 0, 0, 1}, 99, func(t *gate.Thread) {
		defer x.Complete(t, 6, nil)
		w.makes(t, thens(0, quiet("A")))
		panic("x")
	}, func(t *gate.Thread) { w.makes(t, awaits(0), completes(1, 7, nil)) })
	if got, want := w.story.String(), "then0:ok await0:6 A:6( ) complete1:yes"; !slices.Equal(r.Fell, []int{0}) || r.End != api.Over || got != want || w.cameTo() != "peek0:6 peek1:7" {
		t.Errorf("what follows: %s, not %s: %+v", got, want, r)
	}
}
