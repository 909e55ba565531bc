package limit_test

import (
	"errors"
	"io"
	"math"
	"math/rand"
	"slices"
	"testing"

	"treadle/aid"
	"treadle/api"
	"treadle/gate"
)

// TestAmongOthers: threads that meet in the midst of their calls; their accesses are those of the words.
func TestAmongOthers(t *testing.T) {
	type goes = [2]int
	advanced := goes{1, 99}
	for _, m := range []struct {
		what  string
		first []call
		calls [][]call
		picks []int
		told  string // in the order of the run, whoever it is
		then  string // what all futures came to, and the tokens' reasons; and how many timers ring
	}{
		{"it is late between its Set and its Then", nil, [][]call{{withins(0, 0, 3), peeks(1), awaits(1)}, {advances(0, 3)}}, aid.Goes(goes{0, 5}, advanced), "advance0(3):1 within(0,0,3):#1 peek1:late_3 await1:late_3", "peek0:none peek1:late_3 reason0:0 advance0(9):0"},
		{"it is late between its Set and its Then, and what it waits for is there", []call{completes(0, 5, nil)}, [][]call{{withins(0, 0, 3), awaits(1)}, {advances(0, 3)}}, aid.Goes(goes{0, 5}, advanced), "advance0(3):1 within(0,0,3):#1 await1:late_3", "peek0:5 peek1:late_3 reason0:0 advance0(9):0"},
		{"what it waits for comes between its Set and its Then", nil, [][]call{{withins(0, 0, 3), awaits(1)}, {completes(0, 5, nil)}}, aid.Goes(goes{0, 5}, goes{1, 3}), "complete0:yes within(0,0,3):#1 await1:5", "peek0:5 peek1:5 reason0:0 advance0(9):0"},
		{"it comes in the midst of its Then", nil, [][]call{{withins(0, 0, 3), awaits(1)}, {completes(0, 5, io.EOF)}}, aid.Goes(goes{0, 7}, goes{1, 3}), "complete0:yes within(0,0,3):#1 await1:EOF", "peek0:EOF peek1:EOF reason0:0 advance0(9):0"},
		{"time passes between its Now and its Set: it is due ahead of what is now", nil, [][]call{{withins(0, 0, 3), peeks(1), advances(0, 0), peeks(1)}, {advances(0, 5)}}, aid.Goes(goes{0, 1}, advanced), "advance0(5):0 within(0,0,3):#1 peek1:none advance0(0):1 peek1:late_3", "peek0:none peek1:late_3 reason0:0 advance0(9):0"},
		{"its slot is taken as it claims it", nil, [][]call{{withins(0, 0, 3)}, {withins(0, 0, 4)}, {advances(0, 3)}}, aid.Goes(goes{0, 2}, goes{1, 8}, goes{0, 99}, goes{0, 99}), "within(0,0,4):#1 within(0,0,3):#2 advance0(3):1", "peek0:none peek1:none peek2:late_3 reason0:0 advance0(9):1"},
		{"its timer rings, and it comes ahead of that: it rings in vain", []call{withins(0, 0, 3)}, [][]call{{completes(0, 5, nil)}, {advances(0, 3)}}, aid.Goes(goes{1, 21}, goes{0, 4}, advanced), "advance0(3):1 complete0:yes", "peek0:5 peek1:5 reason0:0 advance0(9):0"},
		{"it comes, and its timer is seen and not yet stopped: it rings in vain", []call{withins(0, 0, 3)}, [][]call{{completes(0, 5, nil)}, {advances(0, 3)}}, aid.Goes(goes{0, 6}, advanced), "advance0(3):1 complete0:yes", "peek0:5 peek1:5 reason0:0 advance0(9):0"},
		{"it comes, and its timer is stopped when it was seen: it does not ring", []call{withins(0, 0, 3)}, [][]call{{completes(0, 5, nil)}, {advances(0, 3)}}, aid.Goes(goes{1, 20}, goes{0, 99}), "complete0:yes advance0(3):0", "peek0:5 peek1:5 reason0:0 advance0(9):0"},
		{"it is late, claimed and not filled as it comes", []call{withins(0, 0, 3)}, [][]call{{completes(0, 5, nil), awaits(1)}, {advances(0, 3)}}, aid.Goes(goes{1, 22}, goes{0, 5}, advanced), "complete0:yes advance0(3):1 await1:late_3", "peek0:5 peek1:late_3 reason0:0 advance0(9):0"},
		{"it comes, claimed and not filled as it is late", []call{withins(0, 0, 3)}, [][]call{{completes(0, 5, nil)}, {advances(0, 3), awaits(1)}}, aid.Goes(goes{0, 4}, goes{1, 42}, goes{0, 99}), "advance0(3):1 complete0:yes await1:5", "peek0:5 peek1:5 reason0:0 advance0(9):0"},
		{"who sleeps is woken by what comes", []call{withins(0, 0, 3)}, [][]call{{awaits(1)}, {completes(0, 5, nil)}}, aid.Goes(goes{0, 1}), "await1:5 complete0:yes", "peek0:5 peek1:5 reason0:0 advance0(9):0"},
		{"who sleeps is woken when it is late", []call{withins(0, 0, 3)}, [][]call{{awaits(1)}, {advances(0, 2), advances(0, 1)}}, aid.Goes(goes{0, 1}), "advance0(2):0 await1:late_3 advance0(1):1", "peek0:none peek1:late_3 reason0:0 advance0(9):0"},
		{"the first of two to be filled is not the one that was made first", []call{withins(0, 0, 3), withins(0, 0, 2)}, [][]call{{completes(0, 5, nil)}, {advances(0, 2)}}, aid.Goes(goes{0, 6}, goes{1, 40}, goes{0, 99}), "complete0:yes advance0(2):1", "peek0:5 peek1:5 peek2:late_2 reason0:0 advance0(9):0"},

		{"its time is over ahead of its OnCancel", nil, [][]call{{deadlines(0, 0, 3), reasons(1)}, {advances(0, 3)}}, aid.Goes(goes{0, 8}, advanced), "advance0(3):1 deadline(0,0,3):#1 reason1:1", "peek0:none reason0:0 reason1:1 advance0(9):0"},
		{"the one above is cancelled ahead of its OnCancel: its timer is stopped there", nil, [][]call{{deadlines(0, 0, 3), reasons(1)}, {cancels(0, 7)}}, aid.Goes(goes{0, 8}, goes{1, 99}), "cancel0(7):yes deadline(0,0,3):#1 reason1:7", "peek0:none reason0:7 reason1:7 advance0(9):0"},
		{"the one above is cancelled ahead of its Set", nil, [][]call{{deadlines(0, 0, 3), reasons(1)}, {cancels(0, 7)}}, aid.Goes(goes{0, 3}, goes{1, 99}), "cancel0(7):yes deadline(0,0,3):#1 reason1:7", "peek0:none reason0:7 reason1:7 advance0(9):0"},
		{"the one above has a reason and has not told it: it rings ahead of that", nil, [][]call{{deadlines(0, 0, 3), reasons(1)}, {cancels(0, 7)}, {advances(0, 3)}}, aid.Goes(goes{1, 1}, goes{0, 11}, goes{2, 99}, goes{1, 99}), "deadline(0,0,3):#1 advance0(3):1 reason1:1 cancel0(7):yes", "peek0:none reason0:7 reason1:1 advance0(9):0"},
		{"it is cancelled, and its timer rings ahead of being stopped: in vain", []call{deadlines(0, 0, 3)}, [][]call{{cancels(0, 7), reasons(1)}, {advances(0, 3)}}, aid.Goes(goes{0, 4}, advanced), "advance0(3):1 cancel0(7):yes reason1:7", "peek0:none reason0:7 reason1:7 advance0(9):0"},
		{"its timer rings, and it is cancelled ahead of that", []call{deadlines(0, 0, 3)}, [][]call{{cancels(0, 7), reasons(1)}, {advances(0, 3)}}, aid.Goes(goes{1, 21}, goes{0, 99}), "cancel0(7):yes reason1:7 advance0(3):1", "peek0:none reason0:7 reason1:7 advance0(9):0"},
		{"its time is over ahead of what cancels the one above", []call{deadlines(0, 0, 3)}, [][]call{{cancels(0, 7), reasons(1)}, {advances(0, 3)}}, aid.Goes(goes{1, 22}, goes{0, 99}), "cancel0(7):yes reason1:1 advance0(3):1", "peek0:none reason0:7 reason1:1 advance0(9):0"},
		{"who sleeps is woken when its time is over", []call{deadlines(0, 0, 3)}, [][]call{{waits(1)}, {advances(0, 2), advances(0, 1)}}, aid.Goes(goes{0, 1}), "advance0(2):0 wait1:1 advance0(1):1", "peek0:none reason0:0 reason1:1 advance0(9):0"},
		{"two Advances at one time: one is refused, and its time does not pass", []call{withins(0, 0, 3), deadlines(0, 0, 4)}, [][]call{{advances(0, 2)}, {advances(0, 2), advances(0, 2)}}, aid.Goes(goes{0, 9}, goes{1, 1}, goes{0, 99}), "advance0(2):ErrBusy advance0(2):0 advance0(2):2", "peek0:none peek1:late_3 reason0:0 reason1:1 advance0(9):0"},
	} {
		p := newPair(t, usual, m.first)
		from := len(p.is.story)
		r := p.run(t, m.calls, m.picks, api.MaxTurns)
		if s := p.is.story[from:].String(); s != m.told || r.End != api.Over {
			t.Errorf("P17.1, P17.2: %s: end %d:\n got %s\nwant %s", m.what, r.End, s, m.told)
		}
		if then := p.is.cameTo() + " " + p.is.alone(advances(0, 9)); then != m.then {
			t.Errorf("P17.1, P17.2: %s: behind it %s, not %s", m.what, then, m.then)
		}
		p.as.alone(advances(0, 9))
		p.ends(t)
	}
}

// TestSleeps: who waits for what nobody fills, and for no time that passes, sleeps for good.
func TestSleeps(t *testing.T) {
	for _, row := range []struct {
		first  []call
		waits  call
		stands string
	}{
		{[]call{withins(0, 0, 3), advances(0, 2)}, awaits(1), "0 park c0 0: 0"},
		{[]call{withins(0, 0, 3), claims(0)}, awaits(1), "0 park c0 0: 0"},
		{[]call{withins(0, 0, 3), claims(1), completes(0, 5, nil), advances(0, 9)}, awaits(1), "0 park c0 1: 1"},
		{[]call{deadlines(0, 0, 3), advances(0, 2)}, waits(1), "0 park c0 0: 0"},
		{[]call{deadlines(0, 0, 3), advances(0, 3)}, waits(0), "0 park c0 0: 0"},
	} {
		report, got := ours(usual, row.first...).one(row.waits)
		if aid.Texts(report.Left) != row.stands || report.End != api.Dead || got != "" {
			t.Errorf("P17.1, P17.2: behind %v: %s: %s", row.first, got, aid.Texts(report.Left))
		}
	}
}

// firsts: what is done ahead of a call.
func firsts() [][]call {
	return [][]call{
		nil, {withins(0, 0, 3), deadlines(0, 0, 2)}, {withins(0, 0, 2), withins(0, 1, 1), deadlines(0, 0, 3), deadlines(0, 1, 2), advances(0, 1)}, {completes(0, 4, io.EOF), cancels(0, 6), withins(0, 0, 2), deadlines(0, 0, 2)},
		{withins(0, 0, 2), deadlines(0, 0, 2), thens(1, busy("C", cancels(1, 6), withins(0, 0, 0))), thens(0, fallen("F")), onCancels(1, busy("D", completes(0, 3, nil), deadlines(0, 0, 0)))},
		slices.Concat(timers(15, 0, 2), []call{withins(0, 0, 1)}), slices.Concat(crowd(63, 0), tribe(63, 0)), slices.Concat(timers(14, 0, 9), crowd(64, 0), []call{deadlines(0, 0, 2)}),
	}
}

// TestStands: a thread that stands at whatever access of a call, while another one makes all kinds of calls.
func TestStands(t *testing.T) {
	calls := [][]call{{withins(0, 0, 1), peeks(1)}, {deadlines(0, 0, 1), reasons(1)}, {completes(0, 1, nil)}, {completes(0, 1, io.EOF)}, {cancels(0, 8)}, {cancels(1, 9), completes(1, 9, nil)}, {advances(0, 2)}}
	others := [][]call{
		{completes(0, 7, nil), cancels(0, 4)}, {advances(0, 1), completes(0, 7, failed(8)), advances(0, 1)}, {cancels(1, 5), completes(1, 5, nil), advances(0, 9)}, {withins(0, 0, 1), advances(0, 1), peeks(1), peeks(2)},
		{deadlines(0, 0, 1), cancels(0, 3), advances(0, 1), reasons(1), reasons(2)}, {advances(0, 3), withins(0, 0, 0), deadlines(0, 0, 0), completes(0, 2, nil), cancels(0, 2), awaits(1), waits(1)},
	}
	for _, first := range firsts() {
		for _, mine := range calls {
			for _, other := range others {
				for stands := range accesses(usual, first, mine) + 1 {
					p := newPair(t, usual, first)
					r := p.run(t, [][]call{mine, other}, aid.Goes([2]int{0, stands}, [2]int{1, 400}), api.MaxTurns)
					if p.ends(t); t.Failed() || r.End == api.Cut {
						t.Fatalf("behind %v: %v stands at %d, beside %v: %s", texts(first), texts(mine), stands, texts(other), aid.Texts(r.Log))
					}
				}
			}
		}
	}
}

// TestMany: so many threads that go by turns, at their accesses all at one time.
func TestMany(t *testing.T) {
	const threads = 40
	for seed := range 12 {
		calls := make([][]call, threads)
		for h := range calls {
			of := h % 3
			calls[h] = [][]call{
				{completes(of, int64(h), nil), awaits(of)}, {withins(of%2, of, int64(h%4)), awaits(4 + of)}, {deadlines(of%2, of%2, int64(h%4)), reasons(3), waits(2)}, {cancels(of%2, int64(h+2)), reasons(2)},
				{advances(of%2, 1), advances(of%2, 1)}, {completes(of, 3, failed(int64(h))), peeks(3)},
			}[(h+seed)%6]
		}
		p := newPair(t, plan{2, 3, 2}, []call{withins(0, 0, 2), withins(1, 1, 3), withins(0, 2, 1), deadlines(0, 0, 1), deadlines(1, 1, 2)})
		r := p.run(t, calls, aid.Spread((seed%2)<<11, 7*(seed+1)), api.MaxTurns)
		if p.ends(t); t.Failed() || r.End != api.Over {
			t.Fatalf("what follows: %d: end %d: %s", seed, r.End, aid.Texts(r.Left))
		}
	}
}

// TestTimePasses: runs in which nobody fills, or cancels, what others wait for, but all time passes: none is dead, as all is late.
func TestTimePasses(t *testing.T) {
	for seed := range int64(500) {
		r := rand.New(rand.NewSource(seed))
		w := plan{2, 2, 2}
		var first []call
		for range 1 + r.Intn(8) {
			first = append(first, withins(r.Intn(2), r.Intn(2), int64(r.Intn(4))), deadlines(r.Intn(2), r.Intn(2), int64(r.Intn(4))))
		}
		calls := [][]call{{advances(0, int64(r.Intn(3))), advances(0, math.MaxInt64)}, {advances(1, math.MaxInt64)}}
		for range 1 + r.Intn(4) {
			var l []call
			for range 3 {
				i := 2 + r.Intn(len(first)/2)
				l = append(l, aid.Some(r.Intn, []call{awaits(i), waits(i), peeks(i), reasons(i)}))
			}
			calls = append(calls, l)
		}
		r.Shuffle(len(calls), func(i, j int) { calls[i], calls[j] = calls[j], calls[i] })
		p := newPair(t, w, first)
		report := p.run(t, calls, aid.Mixed(seed, r.Intn, 200, []int{1, 2, 5, 20}), api.MaxTurns)
		for i, f := range p.is.facts {
			if _, e, done := f.x.Peek(nil); done != (i >= 2) || done && !errors.Is(e, api.ErrTime) {
				t.Errorf("what follows: the future %d: %v %v", i, done, e)
			}
		}
		if p.ends(t); t.Failed() || report.End != api.Over {
			t.Fatalf("W3, what follows: seed %d: behind %v: %v: end %d", seed, texts(first), calls, report.End)
		}
	}
}

// TestStopped: a thread that is stopped at whatever access of a call: the gate's own panic comes out of it, then and at each later call, and nothing is changed but by what was done, as by the words.
func TestStopped(t *testing.T) {
	calls := [][]call{{withins(0, 0, 1)}, {deadlines(0, 0, 1)}, {completes(0, 5, nil)}, {completes(0, 5, io.EOF)}, {cancels(0, 5)}, {advances(0, 2)}, {awaits(1)}, {waits(1)}}
	for _, first := range firsts() {
		for _, mine := range calls {
			for turns := range accesses(usual, first, mine) {
				stopped(t, first, mine, turns)
			}
		}
	}
}

// stopped: a thread that makes these calls is stopped behind so many turns.
func stopped(t *testing.T, first, mine []call, turns int) {
	t.Helper()
	var story [2]string
	for i, w := range []*world{newWorld(made, usual), newWorld(words, usual)} {
		w.alone(first...)
		stands, faults := aid.Stops(turns, func(t *gate.Thread, l []call) { w.makes(t, l...) }, mine, []call{withins(0, 0, 1)}, []call{deadlines(0, 0, 1)}, []call{completes(0, 3, nil)}, []call{cancels(0, 3)}, []call{advances(0, 1)})
		if len(faults) != 0 {
			t.Errorf("R1: %v behind %v, %d turns: %v", texts(mine), texts(first), turns, faults)
		}
		story[i] = stands + ": " + w.story.String() + ": " + w.alone(w.tells(17)...)
		for _, f := range w.follows(false) {
			t.Errorf("R1: %v behind %v, %d turns: %s", texts(mine), texts(first), turns, f)
		}
	}
	if story[0] != story[1] {
		t.Errorf("R1: %v behind %v, %d turns:\n got %s\nwant %s", texts(mine), texts(first), turns, story[0], story[1])
	}
}

// TestFallen: a body that falls beside its calls leaves all as it is; calls that it deferred are done.
func TestFallen(t *testing.T) {
	w := ours(usual)
	r := gate.Run(aid.Goes([2]int{0, 19}), 999, func(t *gate.Thread) {
		defer w.makes(t, completes(0, 6, nil))
		w.makes(t, withins(0, 0, 3), deadlines(0, 0, 3))
		panic("x")
	}, func(t *gate.Thread) { w.makes(t, advances(0, 3), waits(1), awaits(0)) })
	if want := "peek0:6 peek1:6 reason0:0 reason1:1"; !slices.Equal(r.Fell, []int{0}) || r.End != api.Over || len(w.follows(true)) != 0 || w.cameTo() != want {
		t.Errorf("what follows: %s: %v: %s", w.story, w.follows(true), w.cameTo())
	}
}
