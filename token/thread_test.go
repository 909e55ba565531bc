package token_test

import (
	"slices"
	"testing"

	"treadle/aid"
	"treadle/api"
	"treadle/gate"
	"treadle/token"
)

// meeting: threads that meet at tokens, each with its own calls.
type meeting struct {
	what  string
	first []call // free, ahead of the run
	calls [][]call
	picks []int
	log   string
	told  string // in the order of the run, whoever it is
	left  string // who sleeps for good
	then  string // the reasons of all tokens behind it
}

func (m meeting) look(t *testing.T) {
	w := made(m.first...)
	from := len(w.story)
	r := gate.Run(m.picks, api.MaxTurns, w.bodies(m.calls)...)
	end := api.Over
	if m.left != "" {
		end = api.Dead
	}
	if s := w.story[from:].String(); aid.Texts(r.Log) != m.log || s != m.told || aid.Texts(r.Left) != m.left || r.End != end {
		t.Errorf("P11.2 to P11.6: %s:\n got %s, end %d, left %s: %s\nwant %s: %s", m.what, aid.Texts(r.Log), r.End, aid.Texts(r.Left), s, m.log, m.told)
	}
	var all []call
	for i := range w.all {
		all = append(all, asks(i))
	}
	if then := w.makes(nil, all...); then != m.then {
		t.Errorf("P11.2 to P11.6: %s: behind it %s, not %s", m.what, then, m.then)
	}
}

// TestAmongOthers: threads that meet in the midst of their calls.
func TestAmongOthers(t *testing.T) {
	a, b := quiet("A"), quiet("B")
	type go2 = [2]int
	for _, m := range []meeting{
		{"two who cancel: the second one comes ahead of the closing", nil, [][]call{{cancels(0, 1)}, {cancels(0, 2), asks(0)}}, []int{0, 1, 1, 0},
			"0 cas c0 0 1: 0 ok; 1 cas c0 0 2: 1 no; 1 load c0: 1; 0 swap c1 -1: 0", "no 1 yes", "", "1"},
		{"a child is made ahead of the closing", nil, [][]call{{cancels(0, 1)}, {bears(0), asks(1)}}, aid.Goes(go2{0, 1}, go2{1, 4}, go2{0, 3}),
			"0 cas c0 0 1: 0 ok; 1 load c1: 0; 1 add c2 1: 0; 1 cas c1 0 1: 0 ok; 1 load c3: 0; 0 swap c1 -1: 1; 0 cas c3 0 1: 0 ok; 0 swap c4 -1: 0", "#1 0 yes", "", "1 1"},
		{"a child is made, and its maker has not been told when it is cancelled", nil, [][]call{{cancels(0, 1)}, {bears(0), cancels(1, 7), asks(1)}}, aid.Goes(go2{1, 2}, go2{0, 1}, go2{1, 1}, go2{0, 2}, go2{1, 2}, go2{0, 1}),
			"1 load c0: 0; 1 add c1 1: 0; 0 cas c2 0 1: 0 ok; 1 cas c0 0 1: 0 ok; 0 swap c0 -1: 1; 0 cas c3 0 1: 0 ok; 1 cas c3 0 7: 1 no; 1 load c3: 1; 0 swap c4 -1: 0", "#1 no 1 yes", "", "1 1"},
		{"a child is made, and cancelled ahead of its parent's turn to it", nil, [][]call{{cancels(0, 1)}, {bears(0), cancels(1, 7)}}, aid.Goes(go2{0, 1}, go2{1, 3}, go2{0, 1}, go2{1, 2}, go2{0, 1}),
			"0 cas c0 0 1: 0 ok; 1 load c1: 0; 1 add c2 1: 0; 1 cas c1 0 1: 0 ok; 0 swap c1 -1: 1; 1 cas c3 0 7: 0 ok; 1 swap c4 -1: 0; 0 cas c3 0 1: 7 no", "#1 yes yes", "", "1 7"},
		{"the list is closed as a child is made", nil, [][]call{{cancels(0, 1)}, {bears(0), bears(1)}}, aid.Goes(go2{1, 2}, go2{0, 2}, go2{1, 9}),
			"1 load c0: 0; 1 add c1 1: 0; 0 cas c2 0 1: 0 ok; 0 swap c0 -1: 0; 1 cas c0 0 1: -1 no; 1 load c0: -1; 1 load c2: 1; 1 store c3 1: 0; 1 swap c4 -1: 0; 1 load c4: -1; 1 load c3: 1; 1 store c5 1: 0; 1 swap c6 -1: 0", "yes #1 #2", "", "1 1 1"},
		{"the list is closed as a function is set", nil, [][]call{{cancels(0, 1)}, {sets(0, busy("A", asks(0)))}}, aid.Goes(go2{1, 1}, go2{0, 2}, go2{1, 9}),
			"1 load c0: 0; 0 cas c1 0 1: 0 ok; 0 swap c0 -1: 0; 1 add c2 1: 0; 1 cas c0 0 1: -1 no; 1 load c0: -1; 1 load c1: 1; 1 load c1: 1", "yes A:1( 1 ) ok", "", "1"},
		{"a function is set ahead of the closing: whoever cancels calls it", nil, [][]call{{cancels(0, 1)}, {sets(0, busy("A", asks(0))), asks(0)}}, aid.Goes(go2{0, 1}, go2{1, 3}, go2{0, 2}, go2{1, 1}),
			"0 cas c0 0 1: 0 ok; 1 load c1: 0; 1 add c2 1: 0; 1 cas c1 0 1: 0 ok; 0 swap c1 -1: 1; 0 load c0: 1; 1 load c0: 1", "ok A:1( 1 ) yes 1", "", "1"},
		{"two who set: who was put on first is called first", nil, [][]call{{sets(0, a)}, {sets(0, b), cancels(0, 3)}}, aid.Goes(go2{0, 2}, go2{1, 3}, go2{0, 2}, go2{1, 2}),
			"0 load c0: 0; 0 add c1 1: 0; 1 load c0: 0; 1 add c1 1: 1; 1 cas c0 0 2: 0 ok; 0 cas c0 0 1: 2 no; 0 load c0: 2; 1 cas c2 0 3: 0 ok; 1 swap c0 -1: 2; 0 cas c0 2 1: -1 no; 0 load c0: -1; 0 load c2: 3", "ok B:3( ) yes A:3( ) ok", "", "3"},
		{"two who set: both ahead of the closing", nil, [][]call{{sets(0, a)}, {sets(0, b), cancels(0, 3)}}, aid.Goes(go2{0, 2}, go2{1, 3}, go2{0, 3}, go2{1, 2}),
			"0 load c0: 0; 0 add c1 1: 0; 1 load c0: 0; 1 add c1 1: 1; 1 cas c0 0 2: 0 ok; 0 cas c0 0 1: 2 no; 0 load c0: 2; 0 cas c0 2 1: 2 ok; 1 cas c2 0 3: 0 ok; 1 swap c0 -1: 1", "ok ok B:3( ) A:3( ) yes", "", "3"},
		{"one below is being cancelled: who cancels above it does not wait for that", []call{bears(0), bears(1), sets(1, a), sets(0, b)}, [][]call{{cancels(0, 1), asks(2)}, {cancels(1, 2)}}, aid.Goes(go2{1, 1}, go2{0, 4}, go2{1, 9}),
			"1 cas c0 0 2: 0 ok; 0 cas c1 0 1: 0 ok; 0 swap c2 -1: 2; 0 cas c0 0 1: 2 no; 0 load c3: 0; 1 swap c4 -1: 2; 1 cas c3 0 2: 0 ok; 1 swap c5 -1: 0", "B:1( ) yes 0 A:2( ) yes", "", "1 2 2"},
		{"one above is being cancelled: who cancels below it comes first", []call{bears(0), bears(1), sets(1, a)}, [][]call{{cancels(0, 1)}, {cancels(1, 2)}}, aid.Goes(go2{0, 2}, go2{1, 4}, go2{0, 1}),
			"0 cas c0 0 1: 0 ok; 0 swap c1 -1: 1; 1 cas c2 0 2: 0 ok; 1 swap c3 -1: 2; 1 cas c4 0 2: 0 ok; 1 swap c5 -1: 0; 0 cas c2 0 1: 2 no", "A:2( ) yes yes", "", "1 2 2"},
		{"one above is being cancelled: who cancels below it comes too late", []call{bears(0), bears(1), sets(1, a)}, [][]call{{cancels(0, 1)}, {cancels(1, 2), cancels(2, 3)}}, aid.Goes(go2{0, 3}, go2{1, 3}, go2{0, 2}),
			"0 cas c0 0 1: 0 ok; 0 swap c1 -1: 1; 0 cas c2 0 1: 0 ok; 1 cas c2 0 2: 1 no; 1 cas c3 0 3: 0 ok; 1 swap c4 -1: 0; 0 swap c5 -1: 2; 0 cas c3 0 1: 3 no", "no yes A:1( ) yes", "", "1 1 3"},
		{"a function goes on, and another thread makes children meanwhile", []call{sets(0, busy("A", asks(0))), bears(0)}, [][]call{{cancels(0, 1)}, {bears(0), bears(1), asks(2), asks(3)}}, aid.Goes(go2{0, 2}, go2{1, 9}, go2{0, 9}),
			"0 cas c0 0 1: 0 ok; 0 swap c1 -1: 2; 1 load c1: -1; 1 load c0: 1; 1 store c2 1: 0; 1 swap c3 -1: 0; 1 load c4: 0; 1 add c5 1: 0; 1 cas c4 0 1: 0 ok; 1 load c2: 1; 1 load c6: 0; 0 load c0: 1; 0 cas c7 0 1: 0 ok; 0 swap c4 -1: 1; 0 cas c6 0 1: 0 ok; 0 swap c8 -1: 0",
			"A:1( #2 #3 1 0 1 ) yes", "", "1 1 1 1"},
		{"who waits is woken by the reason, ahead of all functions", []call{sets(0, busy("A", asks(0)))}, [][]call{{waits(0)}, {cancels(0, 4)}}, []int{0, 1, 0, 0},
			"0 load c0: 0; 1 cas c0 0 4: 0 ok; 0 park c0 0: 4; 1 swap c1 -1: 1; 1 load c0: 4", "woke:4 A:4( 4 ) yes", "", "4"},
		{"who waits ahead of a Cancel that is refused sleeps on", nil, [][]call{{waits(0)}, {cancels(0, 0), cancels(0, -1), asks(0), cancels(0, 4)}}, []int{0, 0, 0},
			"0 load c0: 0; 1 load c0: 0; 1 cas c0 0 4: 0 ok; 0 park c0 0: 4; 1 swap c1 -1: 0", "no no 0 woke:4 yes", "", "4"},
		{"who waits for one below is woken when its turn comes", []call{bears(0), bears(1)}, [][]call{{waits(2)}, {waits(0)}, {cancels(0, 4)}}, []int{0, 0, 0, 0, 0, 0, 0, 0, 0, 0},
			"0 load c0: 0; 1 load c1: 0; 2 cas c1 0 4: 0 ok; 1 park c1 0: 4; 2 swap c2 -1: 1; 2 cas c3 0 4: 0 ok; 2 swap c4 -1: 1; 2 cas c0 0 4: 0 ok; 0 park c0 0: 4; 2 swap c5 -1: 0", "woke:4 woke:4 yes", "", "4 4 4"},
		{"who waits for one above, or beside, sleeps for good", []call{bears(0), bears(0)}, [][]call{{waits(0)}, {waits(2)}, {cancels(1, 4)}}, nil,
			"0 load c0: 0; 1 load c1: 0; 2 cas c2 0 4: 0 ok; 2 swap c3 -1: 0", "yes", "0 park c0 0: 0; 1 park c1 0: 0", "0 4 0"},
		{"a function that waits for another token is waited for", []call{bears(0), sets(0, busy("A", waits(0), asks(0))), sets(1, busy("B", waits(0)))}, [][]call{{cancels(1, 1), asks(1)}, {cancels(0, 2)}}, []int{0, 0, 0, 0},
			"0 cas c0 0 1: 0 ok; 0 swap c1 -1: 1; 0 load c2: 0; 1 cas c2 0 2: 0 ok; 0 park c2 0: 2; 1 swap c3 -1: 2; 0 load c0: 1; 1 cas c0 0 2: 1 no; 1 load c2: 2; 1 load c2: 2", "B:1( woke:2 ) yes 1 A:2( woke:2 2 ) yes", "", "2 1"},
	} {
		m.look(t)
	}
}

// TestLate: a thread that stands at whatever access of a call, while another one makes all kinds of calls.
func TestLate(t *testing.T) {
	a, b := quiet("A"), quiet("B")
	firsts := [][]call{
		nil, {sets(0, a), bears(0), bears(1), sets(2, b), sets(1, a)}, {bears(0), bears(1), sets(1, busy("C", bears(0), bears(2), cancels(0, 8))), bears(1)},
		{bears(0), sets(0, fallen("F", bears(1))), sets(1, busy("D", cancels(1, 9), asks(0))), bears(0)}, append(fills(62, 0), bears(1)), {bears(0), cancels(0, 4)},
	}
	calls := []call{bears(0), bears(1), sets(0, busy("E", bears(0))), sets(1, busy("E", cancels(0, 7))), cancels(0, 1), cancels(1, 2), waits(0), waits(1)}
	others := [][]call{
		{cancels(0, 5)}, {cancels(1, 5)}, {cancels(1, 5), cancels(0, 6)}, {bears(0)}, {bears(1), sets(1, b)}, {sets(0, b), bears(1), cancels(0, 5), bears(0)}, {sets(0, b), sets(0, a), cancels(1, 5), bears(0)},
		{asks(0), cancels(0, 0), asks(1)},
	}
	for _, first := range firsts {
		for _, c := range calls {
			for _, other := range others {
				for stands := range accesses(first, c) + 1 {
					p := newPair(t, first)
					r := p.run(t, [][]call{{c}, other}, aid.Goes([2]int{0, stands}, [2]int{1, 200}), api.MaxTurns)
					p.ends(t, r.End == api.Over)
					if t.Failed() || r.End == api.Cut {
						t.Fatalf("behind %v: %v stands at %d, beside %v: %s", first, c, stands, other, aid.Texts(r.Log))
					}
				}
			}
		}
	}
}

// accesses: how many a call makes, if nobody else goes between them.
func accesses(first []call, c call) int {
	report, _ := alone(made(first...), c)
	return report.Turns
}

// TestMany: so many threads that go by turns, at their accesses all at one time.
func TestMany(t *testing.T) {
	const threads = 32
	for seed := range 8 {
		calls := make([][]call, threads)
		for h := range calls {
			f := quiet(string(rune('a' + h)))
			calls[h] = [][]call{
				{bears(h % 4), sets(h%4, f), bears(4), cancels(5, int64(h+1))},
				{sets(h%4, busy(f.name, bears(0), sets(1, quiet("z")))), bears(h % 4), sets(4, f), asks(4)},
				{waits(h % 4), bears(h % 4), asks(4), waits(4)},
				{asks(h % 4), sets(1, f), cancels(h%8/2, int64(h+1)), bears(1), sets(4, f), cancels(0, int64(h+1))},
			}[(h+seed)%4]
		}
		p := newPair(t, []call{bears(0), bears(1), bears(0), sets(2, busy("y", cancels(3, 77)))})
		r := p.run(t, calls, aid.Spread((seed%2)<<12, 7*(seed+1)), api.MaxTurns)
		if p.ends(t, r.End == api.Over); t.Failed() || r.End != api.Over {
			t.Fatalf("what follows: %d: end %d", seed, r.End)
		}
	}
}

// TestStopped: a thread that is stopped at whatever access of a call: the gate's own panic comes out of it, then and at each later call, and nothing is changed but by what was done.
func TestStopped(t *testing.T) {
	a, b := quiet("A"), quiet("B")
	then := []call{asks(0), asks(1), asks(2), sets(0, b), cancels(1, 8), cancels(0, 9), asks(0), asks(1), asks(2)}
	// from says behind how many turns free calls are answered so.
	type phase struct {
		from int
		want string
	}
	const lives = "0 0 0 ok yes B:9( ) yes 9 8 8"
	tree := []call{bears(0), bears(1), sets(0, a)}
	for _, row := range []struct {
		first    []call
		c        call
		accesses int
		phases   []phase
	}{
		{tree[:2], bears(0), 3, []phase{{0, lives}}},
		{tree[:2], sets(0, a), 3, []phase{{0, lives}}},
		{tree[:2], asks(1), 1, []phase{{0, lives}}},
		{tree[:2], waits(1), 1, []phase{{0, lives}}},
		{append(tree[:2:2], fills(63, 0)...), sets(0, a), 2, []phase{{0, "0 0 0 ErrFull yes " + called(63, "9") + " yes 9 8 8"}}},
		{tree, cancels(0, 5), 6, []phase{
			{0, "0 0 0 ok yes A:9( ) B:9( ) yes 9 8 8"},
			{1, "5 0 0 ok yes no 5 8 8"},
			{2, "5 0 0 B:5( ) ok yes no 5 8 8"},
			{3, "5 5 0 B:5( ) ok no no 5 5 0"},
			{5, "5 5 5 B:5( ) ok no no 5 5 5"},
		}},
		{tree, cancels(1, 5), 4, []phase{
			{0, "0 0 0 ok yes A:9( ) B:9( ) yes 9 8 8"},
			{1, "0 5 0 ok no A:9( ) B:9( ) yes 9 5 0"},
			{3, "0 5 5 ok no A:9( ) B:9( ) yes 9 5 5"},
		}},
		{append(tree[:2:2], cancels(0, 5)), bears(0), 4, []phase{{0, "5 5 5 B:5( ) ok no no 5 5 5"}}},
		{append(tree[:2:2], cancels(0, 5)), sets(0, a), 2, []phase{{0, "5 5 5 B:5( ) ok no no 5 5 5"}}},
		{append(tree[:2:2], cancels(0, 5)), cancels(1, 6), 1, []phase{{0, "5 5 5 B:5( ) ok no no 5 5 5"}}},
		{append(tree[:2:2], cancels(0, 5)), waits(2), 1, []phase{{0, "5 5 5 B:5( ) ok no no 5 5 5"}}},
	} {
		for turns := range row.accesses {
			w := made(row.first...)
			k := known[*token.Token]{slices.Clone(w.all)}
			_, faults := aid.Stops(turns, func(t *gate.Thread, c call) { w.does(t, &k, c) }, row.c, bears(0), sets(1, b), cancels(0, 3), asks(0), waits(1), cancels(2, 3))
			if len(faults) != 0 {
				t.Errorf("R1: %v behind %v, %d turns: %v", row.c, row.first, turns, faults)
			}
			i := len(row.phases) - 1
			for row.phases[i].from > turns {
				i--
			}
			if got, want := w.makes(nil, then...), row.phases[i].want; got != want {
				t.Errorf("R1, what follows: %v behind %v, %d turns:\nthen %s\n not %s", row.c, row.first, turns, got, want)
			}
		}
		if n := accesses(row.first, row.c); n != row.accesses {
			t.Errorf("%v behind %v: %d accesses, not %d", row.c, row.first, n, row.accesses)
		}
	}
}

// TestStoppedAsleep: a thread that is stopped as it sleeps leaves the token as it was; what it calls then is stopped, too.
func TestStoppedAsleep(t *testing.T) {
	w := made(bears(0))
	k := known[*token.Token]{slices.Clone(w.all)}
	stands, faults := aid.Stops(1, func(t *gate.Thread, c call) { w.does(t, &k, c) }, waits(1), waits(0), cancels(1, 3), bears(1), sets(1, quiet("A")))
	if got, want := w.makes(nil, asks(0), asks(1), cancels(1, 5), waits(1)), "0 0 yes woke:5"; stands != "0 park c0 0: 0" || len(faults) != 0 || got != want {
		t.Errorf("P11.6, R1: it stands at %s: %v; then %s, not %s", stands, faults, got, want)
	}
}

// TestFallen: a body that falls beside its calls leaves the tokens as they are.
func TestFallen(t *testing.T) {
	w := made(bears(0))
	k := w.all[0]
	r := gate.Run([]int{0, 0, 0, 1}, 99, func(t *gate.Thread) {
		defer k.Cancel(t, 6)
		w.makes(t, sets(0, quiet("A")))
		panic("x")
	}, func(t *gate.Thread) { w.makes(t, sets(1, quiet("B"))) })
	if got, want := w.story.String(), "#1 ok ok B:6( ) A:6( )"; !slices.Equal(r.Fell, []int{0}) || r.End != api.Over || got != want || w.makes(nil, asks(1)) != "6" {
		t.Errorf("what follows: %s, not %s: %+v", got, want, r)
	}
}
