package clock_test

import (
	"slices"
	"testing"

	"treadle/aid"
	"treadle/api"
	"treadle/gate"
)

// meeting: threads that meet at one clock, each with its own calls.
type meeting struct {
	what  string
	first []call // free, ahead of the run
	calls [][]call
	picks []int
	log   string
	want  [][]answer
	then  []answer // what a free Now, a Set and an Advance to the end answer behind it
}

func (m meeting) look(t *testing.T) {
	p := newClock()
	makes(p, nil, m.first...)
	threads := aid.Scripts[call, answer]{Calls: m.calls, Do: func(t *gate.Thread, c call) answer { return do(p, t, c) }}
	r := gate.Run(m.picks, 999, threads.Bodies()...)
	if aid.Texts(r.Log) != m.log || r.End != api.Over || !slices.EqualFunc(threads.Got, m.want, slices.Equal) {
		t.Errorf("P10.1 to P10.4: %s:\n got %s, end %d, %v\nwant %s, %v", m.what, aid.Texts(r.Log), r.End, threads.Got, m.log, m.want)
	}
	if then := makes(p, nil, looks, sets(1<<62, quiet("Z")), advances(1<<62)); !slices.Equal(then, m.then) {
		t.Errorf("P10.1 to P10.4: %s: behind it %v, not %v", m.what, then, m.then)
	}
}

// TestAmongOthers: threads that meet in the midst of their calls.
func TestAmongOthers(t *testing.T) {
	a, b := quiet("A"), quiet("B")
	one := []call{sets(1, a)}
	const begins = "0 cas c0 0 1: 0 ok; 0 load c1: 0; 0 store c1 1: 0; "
	const ends = "; 0 store c0 0: 1"
	for _, m := range []meeting{
		{"two who set: one is forestalled", nil, [][]call{one, {sets(2, b)}}, []int{0, 1, 0, 1, 0, 0, 1, 1, 1, 1},
			"0 load c0: 0; 1 load c0: 0; 0 cas c0 0 1: 0 ok; 1 cas c0 0 1: 1 no; 0 store c1 1: 0; 0 store c0 2: 1; 1 load c2: 0; 1 cas c2 0 1: 0 ok; 1 store c3 2: 0; 1 store c2 2: 1",
			[][]answer{{laid(0, 2)}, {laid(1, 2)}}, []answer{at(0), laid(2, 2), rung(3, "A B Z ")}},
		{"two who set: one finds a slot claimed", nil, [][]call{one, {sets(2, b)}}, []int{0, 0, 1},
			"0 load c0: 0; 0 cas c0 0 1: 0 ok; 1 load c0: 1; 0 store c1 1: 0; 1 load c2: 0; 0 store c0 2: 1; 1 cas c2 0 1: 0 ok; 1 store c3 2: 0; 1 store c2 2: 1",
			[][]answer{{laid(0, 2)}, {laid(1, 2)}}, []answer{at(0), laid(2, 2), rung(3, "A B Z ")}},
		{"who sets is forestalled by one that is set, and stopped again", nil, [][]call{one, {sets(2, b), stops(0, 2)}}, aid.Goes([2]int{0, 1}, [2]int{1, 5}),
			"0 load c0: 0; 1 load c0: 0; 1 cas c0 0 1: 0 ok; 1 store c1 2: 0; 1 store c0 2: 1; 1 cas c0 2 4: 2 ok; 0 cas c0 0 1: 4 no; 0 load c2: 0; 0 cas c2 0 1: 0 ok; 0 store c3 1: 0; 0 store c2 2: 1",
			[][]answer{{laid(1, 2)}, {laid(0, 2), yes}}, []answer{at(0), laid(0, 6), rung(2, "A Z ")}},
		{"the last slot is taken as somebody sets", fills(15, 9), [][]call{{sets(1, a)}, {sets(2, b)}}, aid.Goes([2]int{0, 16}, [2]int{1, 17}),
			loads(0, slices.Repeat([]int64{2}, 15)...) + "; 0 load c15: 0; " + loadsBy(1, 0, slices.Repeat([]int64{2}, 15)...) + "; 1 load c15: 0; 1 cas c15 0 1: 0 ok; 0 cas c15 0 1: 1 no; 1 store c16 2: 0; 1 store c15 2: 1",
			[][]answer{{full}, {laid(15, 2)}}, []answer{at(0), full, rung(16, "B f0 f1 f2 f3 f4 f5 f6 f7 f8 f9 f10 f11 f12 f13 f14 ")}},
		{"stopped when it is not set yet", nil, [][]call{one, {stops(0, 2), stops(0, 2), stops(0, 2), stops(0, 2)}}, []int{0, 1, 0, 1, 0, 1, 0, 1},
			"0 load c0: 0; 1 cas c0 2 4: 0 no; 0 cas c0 0 1: 0 ok; 1 cas c0 2 4: 1 no; 0 store c1 1: 0; 1 cas c0 2 4: 1 no; 0 store c0 2: 1; 1 cas c0 2 4: 2 ok",
			[][]answer{{laid(0, 2)}, {no, no, no, yes}}, []answer{at(0), laid(0, 6), rung(1, "Z ")}},
		{"stopped behind the look that found it", one, [][]call{{advances(1)}, {stops(0, 2)}}, aid.Goes([2]int{0, 20}, [2]int{1, 1}),
			begins + loads(2, 2, 1) + "; " + loads(4, frees(15)...) + "; 1 cas c2 2 4: 2 ok; 0 cas c2 2 3: 4 no; 0 load c2: 4; " + loads(4, frees(15)...) + ends,
			[][]answer{{rung(0, "")}, {yes}}, []answer{at(1), laid(0, 6), rung(1, "Z ")}},
		{"then the next one rings", []call{sets(1, a), sets(1, b)}, [][]call{{advances(1)}, {stops(0, 2)}}, aid.Goes([2]int{0, 21}, [2]int{1, 1}),
			begins + loads(2, 2, 1, 2, 1) + "; " + loads(6, frees(14)...) + "; 1 cas c2 2 4: 2 ok; 0 cas c2 2 3: 4 no; 0 load c2: 4; " + loads(4, 2, 1) + "; " + loads(6, frees(14)...) +
				"; 0 cas c4 2 3: 2 ok; 0 store c4 4: 3; 0 load c2: 4; 0 load c4: 4; " + loads(6, frees(14)...) + ends,
			[][]answer{{rung(1, "B ")}, {yes}}, []answer{at(1), laid(0, 6), rung(1, "Z ")}},
		{"stopped, and the slot set anew, ahead of the look at its due", one, [][]call{{advances(1)}, {stops(0, 2), sets(0, b)}}, aid.Goes([2]int{0, 4}, [2]int{1, 5}),
			begins + "0 load c2: 2; 1 cas c2 2 4: 2 ok; 1 load c2: 4; 1 cas c2 4 5: 4 ok; 1 store c3 0: 1; 1 store c2 6: 5; 0 load c3: 0; " + loads(4, frees(15)...) +
				"; 0 cas c2 2 3: 6 no; " + loads(2, 6, 0) + "; " + loads(4, frees(15)...) + "; 0 cas c2 6 7: 6 ok; 0 store c2 8: 7; 0 load c2: 8; " + loads(4, frees(15)...) + ends,
			[][]answer{{rung(1, "B ")}, {yes, laid(0, 6)}}, []answer{at(1), laid(0, 10), rung(1, "Z ")}},
		{"stopped, and the slot set anew with a later due, ahead of the look at its due", one, [][]call{{advances(1)}, {stops(0, 2), sets(9, b)}}, aid.Goes([2]int{0, 4}, [2]int{1, 5}),
			begins + "0 load c2: 2; 1 cas c2 2 4: 2 ok; 1 load c2: 4; 1 cas c2 4 5: 4 ok; 1 store c3 9: 1; 1 store c2 6: 5; 0 load c3: 9; " + loads(4, frees(15)...) + ends,
			[][]answer{{rung(0, "")}, {yes, laid(0, 6)}}, []answer{at(1), laid(1, 2), rung(2, "B Z ")}},
		{"stopped, and the slot set anew with the same due, behind the look", one, [][]call{{advances(1)}, {stops(0, 2), sets(1, b)}}, aid.Goes([2]int{0, 20}, [2]int{1, 5}),
			begins + loads(2, 2, 1) + "; " + loads(4, frees(15)...) + "; 1 cas c2 2 4: 2 ok; 1 load c2: 4; 1 cas c2 4 5: 4 ok; 1 store c3 1: 1; 1 store c2 6: 5; " +
				"0 cas c2 2 3: 6 no; " + loads(2, 6, 1) + "; " + loads(4, frees(15)...) + "; 0 cas c2 6 7: 6 ok; 0 store c2 8: 7; 0 load c2: 8; " + loads(4, frees(15)...) + ends,
			[][]answer{{rung(1, "B ")}, {yes, laid(0, 6)}}, []answer{at(1), laid(0, 10), rung(1, "Z ")}},
		{"an earlier one is set behind the look", one, [][]call{{advances(1)}, {sets(0, b)}}, aid.Goes([2]int{0, 20}, [2]int{1, 5}),
			begins + loads(2, 2, 1) + "; " + loads(4, frees(15)...) + "; 1 load c2: 2; 1 load c4: 0; 1 cas c4 0 1: 0 ok; 1 store c19 0: 0; 1 store c4 2: 1; " +
				"0 cas c2 2 3: 2 ok; 0 store c2 4: 3; 0 load c2: 4; 0 load c4: 2; 0 load c19: 0; " + loads(5, frees(14)...) +
				"; 0 cas c4 2 3: 2 ok; 0 store c4 4: 3; 0 load c2: 4; 0 load c4: 4; " + loads(5, frees(14)...) + ends,
			[][]answer{{rung(2, "A B ")}, {laid(1, 2)}}, []answer{at(1), laid(0, 6), rung(1, "Z ")}},
		{"set behind the last look at its slot", nil, [][]call{{advances(1)}, {sets(1, a)}}, aid.Goes([2]int{0, 4}, [2]int{1, 4}),
			begins + "0 load c2: 0; 1 load c2: 0; 1 cas c2 0 1: 0 ok; 1 store c3 1: 0; 1 store c2 2: 1; " + loads(4, frees(15)...) + ends,
			[][]answer{{rung(0, "")}, {laid(0, 2)}}, []answer{at(1), laid(1, 2), rung(2, "A Z ")}},
		{"set ahead of the look at its slot", nil, [][]call{{advances(1)}, {sets(1, a)}}, aid.Goes([2]int{0, 3}, [2]int{1, 4}),
			begins + "1 load c2: 0; 1 cas c2 0 1: 0 ok; 1 store c3 1: 0; 1 store c2 2: 1; " + loads(2, 2, 1) + "; " + loads(4, frees(15)...) +
				"; 0 cas c2 2 3: 2 ok; 0 store c2 4: 3; 0 load c2: 4; " + loads(4, frees(15)...) + ends,
			[][]answer{{rung(1, "A ")}, {laid(0, 2)}}, []answer{at(1), laid(0, 6), rung(1, "Z ")}},
		{"claimed, not set, at the look", nil, [][]call{{advances(1)}, {sets(1, a)}}, aid.Goes([2]int{1, 3}, [2]int{0, 19}, [2]int{1, 1}),
			"1 load c0: 0; 1 cas c0 0 1: 0 ok; 1 store c1 1: 0; 0 cas c2 0 1: 0 ok; 0 load c3: 0; 0 store c3 1: 0; 0 load c0: 1; " + loads(4, frees(15)...) + "; 1 store c0 2: 1; 0 store c2 0: 1",
			[][]answer{{rung(0, "")}, {laid(0, 2)}}, []answer{at(1), laid(1, 2), rung(2, "A Z ")}},
		{"stopped as it rings, and when it has rung", []call{sets(1, busies("A", looks))}, [][]call{{advances(1)}, {stops(0, 2), stops(0, 2), stops(0, 2)}}, aid.Goes([2]int{0, 21}, [2]int{1, 1}, [2]int{0, 1}, [2]int{1, 1}, [2]int{0, 1}, [2]int{1, 1}),
			begins + loads(2, 2, 1) + "; " + loads(4, frees(15)...) + "; 0 cas c2 2 3: 2 ok; 1 cas c2 2 4: 3 no; 0 load c1: 1; 1 cas c2 2 4: 3 no; 0 store c2 4: 3; 1 cas c2 2 4: 4 no; 0 load c2: 4; " + loads(4, frees(15)...) + ends,
			[][]answer{{rung(1, "A( 1 ) ")}, {no, no, no}}, []answer{at(1), laid(0, 6), rung(1, "Z ")}},
		{"set as one rings: its slot is not free", one, [][]call{{advances(1)}, {sets(9, b), sets(8, a)}}, aid.Goes([2]int{0, 21}, [2]int{1, 2}, [2]int{0, 1}, [2]int{1, 7}),
			begins + loads(2, 2, 1) + "; " + loads(4, frees(15)...) + "; 0 cas c2 2 3: 2 ok; 1 load c2: 3; 1 load c4: 0; 0 store c2 4: 3; 1 cas c4 0 1: 0 ok; 1 store c19 9: 0; 1 store c4 2: 1; " +
				"1 load c2: 4; 1 cas c2 4 5: 4 ok; 1 store c3 8: 1; 1 store c2 6: 5; " + loads(2, 6, 8) + "; 0 load c4: 2; 0 load c19: 9; " + loads(5, frees(14)...) + ends,
			[][]answer{{rung(1, "A ")}, {laid(1, 2), laid(0, 6)}}, []answer{at(1), laid(2, 2), rung(3, "A B Z ")}},
		{"two who stop", one, [][]call{{stops(0, 2)}, {stops(0, 2)}}, []int{1, 0},
			"1 cas c0 2 4: 2 ok; 0 cas c0 2 4: 4 no", [][]answer{{no}, {yes}}, []answer{at(0), laid(0, 6), rung(1, "Z ")}},
		{"two who advance", nil, [][]call{{advances(1)}, {advances(5), advances(7), advances(9)}}, aid.Goes([2]int{0, 1}, [2]int{1, 1}, [2]int{0, 18}, [2]int{1, 1}, [2]int{0, 1}, [2]int{1, 20}),
			"0 cas c0 0 1: 0 ok; 1 cas c0 0 1: 1 no; 0 load c1: 0; 0 store c1 1: 0; " + loads(2, frees(16)...) + "; 1 cas c0 0 1: 1 no" + ends +
				"; 1 cas c0 0 1: 0 ok; 1 load c1: 1; 1 store c1 10: 1; " + loadsBy(1, 2, frees(16)...) + "; 1 store c0 0: 1",
			[][]answer{{rung(0, "")}, {busy, busy, rung(0, "")}}, []answer{at(10), laid(0, 2), rung(1, "Z ")}},
		{"who asks the time meanwhile", nil, [][]call{{advances(5)}, {looks, looks, looks}}, []int{0, 1, 0, 1, 0, 1},
			"0 cas c0 0 1: 0 ok; 1 load c1: 0; 0 load c1: 0; 1 load c1: 0; 0 store c1 5: 0; 1 load c1: 5; " + loads(2, frees(16)...) + ends,
			[][]answer{{rung(0, "")}, {at(0), at(0), at(5)}}, []answer{at(5), laid(0, 2), rung(1, "Z ")}},
	} {
		m.look(t)
	}
}

// TestLate: a thread that stands at whatever access of a call, while another one makes all kinds of calls.
func TestLate(t *testing.T) {
	a, b := quiet("A"), quiet("B")
	others := [][]call{
		{stops(0, 2)}, {stops(1, 2), stops(0, 2)}, {sets(0, b)}, {stops(0, 2), sets(0, b)}, {stops(0, 2), sets(9, b), stops(1, 2), sets(1, b)}, {sets(1, b), stops(2, 2), stops(0, 2), stops(1, 2)},
		{advances(1)}, {advances(1), stops(0, 2), sets(0, b), stops(0, 6)}, {advances(0), advances(9)}, {looks, sets(3, b), looks},
	}
	firsts := [][]call{
		nil, {sets(1, a)}, {sets(2, a), sets(1, busies("C", looks, sets(1, b), stops(0, 2)))}, {sets(9, a), sets(1, b), sets(1, a)}, {sets(1, a), sets(1, fallen("F", stops(1, 2)))},
	}
	for _, first := range firsts {
		for _, c := range []call{sets(1, quiet("D")), stops(0, 2), stops(1, 2), advances(1)} {
			for _, other := range others {
				for stands := range accesses(first, c) + 1 {
					w := newWorld(first, [][]call{{c}, other})
					r := w.run(t, aid.Goes([2]int{0, stands}, [2]int{1, 300}), api.MaxTurns)
					if t.Failed() || r.End != api.Over {
						t.Fatalf("behind %v: %v stands at %d, beside %v: %s", first, c, stands, other, aid.Texts(r.Log))
					}
				}
			}
		}
	}
}

// accesses: how many a call makes, if nobody else goes between them.
func accesses(first []call, c call) int {
	p := newClock()
	makes(p, nil, first...)
	report, _ := alone(p, c)
	return report.Turns
}

// TestMany: so many threads that go by turns, at their accesses all at one time.
func TestMany(t *testing.T) {
	const threads = 32
	for seed := range 6 {
		calls := make([][]call, threads)
		for h := range calls {
			b := quiet(string(rune('a' + h)))
			calls[h] = [][]call{
				{sets(int64(h%3), b), stops(h%16, 2), sets(1, b)},
				{sets(1, b), advances(1), stops(h%16, 6)},
				{stops(h%16, 2), sets(int64(h%5), b), advances(int64(seed))},
				{advances(1), sets(0, busies(b.name, sets(0, quiet("z")), stops(h%16, 2))), looks},
			}[(h+seed)%4]
		}
		w := newWorld(fills(seed, 1), calls)
		if r := w.run(t, aid.Spread(1<<12, 7*(seed+1)), api.MaxTurns); t.Failed() || r.End != api.Over {
			t.Fatalf("what follows: %d: end %d", seed, r.End)
		}
	}
}

// TestStopped: a thread that is stopped at whatever access of a call: the gate's own panic comes out of it, then and at each later call, and nothing is changed but by what was done.
func TestStopped(t *testing.T) {
	a, b := quiet("A"), quiet("B")
	later := []call{looks, advances(1), stops(0, 2), stops(1, 2), sets(3, b), sets(3, b), advances(9)}
	// from says behind how many turns free calls are answered so.
	type phase struct {
		from int
		want []answer
	}
	for _, row := range []struct {
		first    []call
		c        call
		accesses int
		phases   []phase
	}{
		{[]call{sets(9, a)}, sets(5, b), 5, []phase{
			{0, []answer{at(0), rung(0, ""), yes, no, laid(0, 6), laid(1, 2), rung(2, "B B ")}},
			{3, []answer{at(0), rung(0, ""), yes, no, laid(0, 6), laid(2, 2), rung(2, "B B ")}},
		}},
		{[]call{sets(9, a)}, stops(0, 2), 1, []phase{{0, []answer{at(0), rung(0, ""), yes, no, laid(0, 6), laid(1, 2), rung(2, "B B ")}}}},
		{[]call{sets(9, a)}, looks, 1, []phase{{0, []answer{at(0), rung(0, ""), yes, no, laid(0, 6), laid(1, 2), rung(2, "B B ")}}}},
		{fills(16, 9), sets(5, b), 16, []phase{{0, []answer{at(0), rung(0, ""), yes, yes, laid(0, 6), laid(1, 6), rung(16, "B B f2 f3 f4 f5 f6 f7 f8 f9 f10 f11 f12 f13 f14 f15 ")}}}},
		{nil, advances(7), 20, []phase{
			{0, []answer{at(0), rung(0, ""), no, no, laid(0, 2), laid(1, 2), rung(2, "B B ")}},
			{1, []answer{at(0), busy, no, no, laid(0, 2), laid(1, 2), busy}},
			{3, []answer{at(7), busy, no, no, laid(0, 2), laid(1, 2), busy}},
		}},
		{[]call{sets(1, busies("A", looks, sets(9, b)))}, advances(1), 46, []phase{
			{0, []answer{at(0), rung(1, "A( 1 1/2 ) "), no, yes, laid(0, 6), laid(1, 6), rung(2, "B B ")}},
			{1, []answer{at(0), busy, yes, no, laid(0, 6), laid(1, 2), busy}},
			{3, []answer{at(1), busy, yes, no, laid(0, 6), laid(1, 2), busy}},
			{21, []answer{at(1), busy, no, no, laid(1, 2), laid(2, 2), busy}},
			{25, []answer{at(1), busy, no, no, laid(2, 2), laid(3, 2), busy}},
			{27, []answer{at(1), busy, no, yes, laid(1, 6), laid(2, 2), busy}},
			{28, []answer{at(1), busy, no, yes, laid(0, 6), laid(1, 6), busy}},
		}},
	} {
		for turns := range row.accesses {
			p := newClock()
			makes(p, nil, row.first...)
			_, faults := aid.Stops(turns, func(t *gate.Thread, c call) { do(p, t, c) }, row.c, sets(0, b), looks, stops(0, 2), advances(1), sets(0, b))
			if len(faults) != 0 {
				t.Errorf("R1: %v behind %v, %d turns: %v", row.c, row.first, turns, faults)
			}
			i, _ := slices.BinarySearchFunc(row.phases, turns+1, func(x phase, n int) int { return x.from - n })
			p.heard = ""
			if got, want := makes(p, nil, later...), row.phases[i-1].want; !slices.Equal(got, want) {
				t.Errorf("R1, what follows: %v behind %v, %d turns:\nthen %v\n not %v", row.c, row.first, turns, got, want)
			}
		}
		if n := accesses(row.first, row.c); n != row.accesses {
			t.Errorf("%v behind %v: %d accesses, not %d", row.c, row.first, n, row.accesses)
		}
	}
}

// TestFallen: a body that falls beside its calls leaves the clock as it is.
func TestFallen(t *testing.T) {
	p := newClock()
	r := gate.Run([]int{0, 1}, 99, func(t *gate.Thread) {
		defer makes(p, t, sets(2, quiet("B")), advances(1))
		makes(p, t, sets(1, quiet("A")))
		panic("x")
	}, func(t *gate.Thread) { makes(p, t, sets(2, quiet("C"))) })
	if got := makes(p, nil, looks, advances(1)); !slices.Equal(r.Fell, []int{0}) || r.End != api.Over || !slices.Equal(got, []answer{at(1), rung(2, "C B ")}) {
		t.Errorf("what follows: %v: %+v", got, r)
	}
}
