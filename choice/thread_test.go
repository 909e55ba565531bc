package choice_test

import (
	"math/rand"
	"slices"
	"testing"

	"treadle/aid"
	"treadle/api"
	"treadle/cell"
	"treadle/choice"
	"treadle/gate"
)

// TestAmongOthers: threads that meet in the midst of their calls; their accesses are those of the words.
func TestAmongOthers(t *testing.T) {
	type goes = [2]int
	const rest = 99
	both, full := []arm{from(0), from(1)}, []call{puts(0, 1), puts(0, 2)}
	for _, m := range []struct {
		what  string
		of    plan
		first []call
		calls [][]call
		picks []int
		told  string // in the order of the run, whoever it is
		left  string // who sleeps for good
	}{
		{"who sleeps is woken by what is sent into its first pipe", two, nil, [][]call{{picks(both...)}, {puts(0, 5)}}, aid.Goes(goes{0, 8}), "put0(5):did select0(r0,r1):did@0_5", ""},
		{"who sleeps is woken by what is sent into its last pipe", two, nil, [][]call{{picks(both...)}, {sends(1, 5)}}, aid.Goes(goes{0, 8}), "send1(5):did select0(r0,r1):did@1_5", ""},
		{"who sleeps is woken by a Close", two, nil, [][]call{{picks(both...)}, {closes(1)}}, aid.Goes(goes{0, 8}), "close1:did select0(r0,r1):over@1", ""},
		{"who sends and sleeps is woken by what is received", two, full, [][]call{{picks(into(0, 9))}, {takes(0)}}, aid.Goes(goes{0, 4}), "take0:did_1 select0(s0_9):did@0", ""},
		{"who sends and sleeps is woken by a Close", two, full, [][]call{{picks(into(0, 9))}, {closes(0)}}, aid.Goes(goes{0, 4}), "close0:did select0(s0_9):refused@0", ""},
		{"who sends and receives sleeps, and is woken by either", two, full, [][]call{{picks(into(0, 9), from(1)), picks(into(0, 9), from(1))}, {puts(1, 5), takes(0)}}, aid.Goes(goes{0, 8}, goes{1, 6}, goes{0, 17}), "put1(5):did select0(s0_9,r1):did@1_5 take0:did_1 select0(s0_9,r1):did@0", ""},
		{"something comes between the look at the bell and that at the pipes", two, nil, [][]call{{picks(both...)}, {puts(1, 5)}}, aid.Goes(goes{0, 2}, goes{1, 6}), "put1(5):did select0(r0,r1):did@1_5", ""},
		{"something comes into a pipe that was looked at, ahead of the look's end: nobody sleeps through it", two, nil, [][]call{{picks(both...)}, {puts(0, 5)}}, aid.Goes(goes{0, 5}, goes{1, 6}), "put0(5):did select0(r0,r1):did@0_5", ""},
		{"something comes between the look's end and the sleep", two, nil, [][]call{{picks(both...)}, {puts(0, 5)}}, aid.Goes(goes{0, 8}, goes{1, 6}), "put0(5):did select0(r0,r1):did@0_5", ""},
		{"something is there, and the bell has not rung yet: it is found, if it is looked for", two, nil, [][]call{{picks(both...)}, {puts(0, 5)}}, aid.Goes(goes{1, 5}, goes{0, 8}), "select0(r0,r1):did@0_5 put0(5):did", ""},
		{"something comes, and the bell rings behind the sleep's begin", two, nil, [][]call{{picks(both...)}, {puts(0, 5)}}, aid.Goes(goes{0, 5}, goes{1, 5}, goes{0, 3}), "put0(5):did select0(r0,r1):did@0_5", ""},
		{"it is woken in vain, and looks from the same case on", two, nil, [][]call{{picks(both...)}, {rings(1), puts(1, 6), puts(0, 5)}}, aid.Goes(goes{0, 8}, goes{1, 1}, goes{0, 8}, goes{1, 12}), "ring(1):1 put1(6):did put0(5):did select0(r0,r1):did@0_5", ""},
		{"it is woken as somebody else has had what came", two, nil, [][]call{{picks(both...)}, {puts(0, 5), takes(0), puts(1, 6)}}, aid.Goes(goes{0, 8}, goes{1, 12}, goes{0, 8}), "put0(5):did take0:did_5 put1(6):did select0(r0,r1):did@1_6", ""},
		{"two sleep, and one value wakes one for good", two, nil, [][]call{{picks(both...)}, {picks(both...)}, {puts(0, 5)}}, aid.Goes(goes{0, 8}, goes{0, 8}, goes{0, 6}), "put0(5):did select0(r0,r1):did@0_5", "1 park c1 2: 2"},
		{"two sleep, one receives what the other one sends", two, []call{puts(1, 1), puts(1, 2)}, [][]call{{picks(from(0))}, {picks(into(1, 7)), puts(0, 5)}, {takes(1)}}, aid.Goes(goes{0, 5}, goes{0, 4}, goes{0, 6}), "take1:did_1 select0(s1_7):did@0 put0(5):did select0(r0):did@0_5", ""},
		{"a pipe with the bell that it does not look at wakes it in vain", two, nil, [][]call{{picks(from(0))}, {puts(1, 5), closes(1)}}, aid.Goes(goes{0, 5}), "put1(5):did close1:did", "0 park c1 2: 2"},
		{"one who waits for what he himself is to send sleeps for good", two, nil, [][]call{{picks(both...), puts(0, 5)}, {hears}}, nil, "hear:0", "0 park c1 0: 0"},
		{"it is closed as it looks: what was sent ahead is received", two, nil, [][]call{{picks(from(0)), picks(from(0))}, {puts(0, 5), closes(0)}}, aid.Goes(goes{0, 2}, goes{1, rest}), "put0(5):did close0:did select0(r0):did@0_5 select0(r0):over@0", ""},
		{"two choices with one bell: each has its own turns", plan{rooms: []int{2, 2}, tickets: []int64{0, 0}}, []call{puts(0, 1), puts(1, 2)}, [][]call{{picks(both...)}, {picks(both...).by(1)}}, aid.Goes(goes{0, rest}), "select0(r0,r1):did@0_1 select1(r0,r1):did@1_2", ""},
		{"two go by one choice: who has the ticket first looks at the first case first", two, []call{puts(0, 1), puts(1, 2)}, [][]call{{picks(both...)}, {picks(both...)}}, aid.Goes(goes{0, 1}, goes{1, rest}), "select0(r0,r1):did@1_2 select0(r0,r1):did@0_1", ""},
		{"somebody else has what it was about to receive: it goes on to the next case", two, []call{puts(0, 1), puts(1, 2)}, [][]call{{tries(both...)}, {takes(0)}}, aid.Goes(goes{0, 3}, goes{1, rest}), "take0:did_1 try0(r0,r1):did@1_2", ""},
		{"somebody else has the place: it goes on to the next case", two, []call{puts(0, 1)}, [][]call{{tries(into(0, 8), into(1, 9))}, {puts(0, 7)}}, aid.Goes(goes{0, 3}, goes{1, rest}), "put0(7):did try0(s0_8,s1_9):did@1", ""},
		{"something comes behind the look: a Try finds none", two, nil, [][]call{{tries(both...)}, {puts(0, 5)}}, aid.Goes(goes{0, 4}, goes{1, rest}), "put0(5):did try0(r0,r1):not", ""},
		{"what is claimed and not there yet is not received, nor told to be over", two, nil, [][]call{{tries(from(0)), tries(from(0))}, {puts(0, 5)}, {closes(0)}}, aid.Goes(goes{1, 3}, goes{2, 3}, goes{0, 4}, goes{1, rest}), "close0:did try0(r0):not put0(5):did try0(r0):did@0_5", ""},
	} {
		p := newPair(t, m.of, m.first...)
		from := len(p.is.story)
		r := p.run(t, m.calls, m.picks, api.MaxTurns)
		end := api.Over
		if m.left != "" {
			end = api.Dead
		}
		if s, left := p.is.story[from:].String(), aid.Texts(r.Left); s != m.told || left != m.left || r.End != end {
			t.Errorf("P21.3, P21.4: %s: end %d, left %s:\n got %s\nwant %s: %s", m.what, r.End, left, s, m.told, aid.Texts(r.Log))
		}
		p.ends(t)
	}
}

// TestLate: a thread that stands at whatever access of a call, while others make all kinds of calls; then it goes on, or never does.
func TestLate(t *testing.T) {
	firsts := [][]call{nil, {puts(0, 1)}, {puts(0, 1), puts(0, 2), puts(1, 3)}, {closes(0)}, {puts(0, 1), puts(1, 2), closes(0), closes(1)}}
	calls := []call{tries(from(0), from(1)), tries(into(0, 11), into(1, 12)), picks(from(0), from(1)), picks(into(0, 11), from(1)), picks(into(0, 11), into(0, 12)), tries(from(1), into(0, 13))}
	others := [][]call{{puts(0, 21), puts(1, 22)}, {takes(0), takes(1)}, {tries(into(0, 21), into(1, 22)), tries(from(0), from(1))}, {closes(0), closes(1)}, {picks(from(0), into(1, 21)), closes(1)}, {picks(from(1)), puts(0, 21)}}
	for _, first := range firsts {
		for _, c := range calls {
			for _, other := range others {
				for stands := range 14 {
					for _, goesOn := range []bool{true, false} {
						late(t, first, c, other, stands, goesOn)
					}
				}
			}
		}
	}
}

// late: one who stands at the access of that number, while the other one makes his calls.
func late(t *testing.T, first []call, c call, other []call, stands int, goesOn bool) {
	t.Helper()
	p, most := newPair(t, two, first...), api.MaxTurns
	picks := aid.Goes([2]int{0, stands}, [2]int{1, 99})
	if !goesOn { // so many turns as the other one has then
		r := p.run(t, [][]call{{c}, other}, picks, api.MaxTurns)
		for most = 0; most < len(r.Went) && (most < stands || r.Went[most] != 0); most++ {
		}
		p = newPair(t, two, first...)
	}
	r := p.run(t, [][]call{{c}, other}, picks, most)
	if p.ends(t); t.Failed() || goesOn && r.End == api.Cut {
		t.Fatalf("behind %v: %v stands at %d, beside %v: %s", first, c, stands, other, aid.Texts(r.Log))
	}
}

// TestAnew: who is woken in vain looks again, however often, from the same case on, without another ticket; and finds what is ready then.
func TestAnew(t *testing.T) {
	const times = 100
	for _, row := range []struct {
		what   string
		first  []call
		c      call
		looks  int // so many accesses a look at the bell and the cases has
		last   []call
		answer string
	}{
		{"one who receives", nil, picks(from(0), from(1)), 7, []call{puts(1, 7), puts(0, 8)}, "did@0_8"},
		{"one who sends", []call{puts(0, 1), puts(0, 2)}, picks(into(0, 9), from(1)), 6, []call{closes(0), closes(1)}, "refused@0"},
		{"one who sends, and has what he receives", []call{puts(0, 1), puts(0, 2)}, picks(into(0, 9), from(1)), 6, []call{puts(1, 5)}, "did@1_5"},
	} {
		p := newPair(t, two, row.first...)
		from := len(p.is.story)
		again := aid.Goes([2]int{0, row.looks}, [2]int{1, 1}, [2]int{0, 1}) // the other one rings
		picks := slices.Concat([]int{0}, slices.Repeat(again, times), aid.Goes([2]int{0, row.looks}, [2]int{1, 12}))
		r := p.run(t, [][]call{{row.c}, append(slices.Repeat([]call{rings(1)}, times), row.last...)}, picks, api.MaxTurns)
		told, woken := "", 0
		for _, x := range p.is.story[from:] {
			if x.Thread == 0 {
				told = x.Text
			}
		}
		for _, a := range r.Log {
			woken += aid.Digit(a.Op == api.OpPark)
		}
		if tickets := slices.IndexFunc(r.Log[1:], func(a api.Access) bool { return a.Cell == 0 }); r.End != api.Over || told != row.c.String()+":"+row.answer || woken != times+1 || tickets >= 0 {
			t.Errorf("P21.4: %s: end %d, woken %d times: %s", row.what, r.End, woken, told)
		}
		p.ends(t)
	}
}

// TestMany: so many threads that go by turns, at their accesses all at one time.
func TestMany(t *testing.T) {
	for seed := range 24 {
		of := plan{rooms: []int{2, 4, 2}, tickets: []int64{0, int64(7 * seed)}, rung: int64(seed)}
		calls := make([][]call, 30)
		for h := range calls {
			v := int64(100 * h)
			calls[h] = [][]call{
				{picks(into(0, v), into(1, v+1), into(2, v+2)), picks(into(2, v+3), into(1, v+4))},
				{picks(from(0), from(1), from(2)), picks(from(2), from(0), from(1)).by(1)},
				{tries(into(h%3, v), from((h+1)%3)), picks(from(h%3), into((h+1)%3, v+1)), tries(from(0), from(1))},
				{sends(h%3, v), picks(from(0), from(1)).by(1), recvs(h % 3)},
			}[(h+seed)%4]
		}
		last := []call{closes(0), closes(1), closes(2)}
		p := newPair(t, of, puts(0, -1), puts(1, -2))
		r := p.run(t, append(calls, last), aid.Spread((seed%3)<<10, 7*(seed+1)), api.MaxTurns)
		if p.ends(t); t.Failed() || r.End != api.Over {
			t.Fatalf("W3, what follows: %d: end %d", seed, r.End)
		}
	}
}

// TestSomebodyCloses: runs in which each pipe is closed by one who sleeps on none: none is dead, whatever all others wait for.
func TestSomebodyCloses(t *testing.T) {
	slept := 0
	for seed := range int64(4000) {
		r := rand.New(rand.NewSource(seed))
		of, first, calls := some(r)
		for i := range of.rooms {
			calls = append(calls, append(slices.Repeat([]call{hears}, r.Intn(20)), closes(i)))
		}
		r.Shuffle(len(calls), func(i, j int) { calls[i], calls[j] = calls[j], calls[i] })
		p := newPair(t, of, first...)
		report := p.run(t, calls, aid.Mixed(seed, r.Intn, 120, []int{1, 2, 5, 9}), api.MaxTurns)
		for _, a := range report.Log {
			slept += aid.Digit(a.Op == api.OpPark)
		}
		if p.ends(t); t.Failed() || report.End != api.Over {
			t.Fatalf("W3, what follows: seed %d: %+v behind %v: %v: end %d: %s", seed, of, first, calls, report.End, aid.Texts(report.Log))
		}
	}
	if slept < 2000 {
		t.Errorf("the threads are no good: %d", slept)
	}
}

// TestAsManyAreSent: runs in which each value that is selected for is sent, and each that is sent is selected for: none is dead, and each value is received once.
func TestAsManyAreSent(t *testing.T) {
	slept := 0
	for seed := range int64(3000) {
		r := rand.New(rand.NewSource(seed))
		of := somePlan(r)
		var all []arm
		for i := range of.rooms {
			all = append(all, from(i))
		}
		n := r.Intn(12)
		senders, receivers := make([][]call, 1+r.Intn(3)), make([][]call, 1+r.Intn(3))
		var want []int64
		for k := range n {
			v, h := int64(k+1), r.Intn(len(senders))
			c := sends(r.Intn(len(of.rooms)), v)
			if r.Intn(2) == 0 { // into whichever has room
				c = picks().by(r.Intn(len(of.tickets)))
				for _, i := range r.Perm(len(of.rooms)) {
					c.arms = append(c.arms, into(i, v))
				}
			}
			senders[h] = append(senders[h], c)
			h = r.Intn(len(receivers))
			receivers[h] = append(receivers[h], picks(all...).by(r.Intn(len(of.tickets))))
			want = append(want, v)
		}
		p := newPair(t, of)
		report := p.run(t, append(senders, receivers...), aid.Mixed(seed, r.Intn, 120, []int{1, 2, 5, 9}), api.MaxTurns)
		var got []int64
		for _, f := range p.is.facts.pipes {
			got = append(got, f.out...)
		}
		slices.Sort(got)
		for _, a := range report.Log {
			slept += aid.Digit(a.Op == api.OpPark)
		}
		if p.ends(t); t.Failed() || report.End != api.Over || !slices.Equal(got, want) {
			t.Fatalf("W3, what follows: seed %d: %v: %v: end %d: %v: %s", seed, senders, receivers, report.End, got, aid.Texts(report.Log))
		}
	}
	if slept < 1500 {
		t.Errorf("the threads are no good: %d", slept)
	}
}

// TestOthersWriteToTheList: cases are handed in by value: what other threads do to a caller's list while a call looks, or sleeps, it does not see.
func TestOthersWriteToTheList(t *testing.T) {
	for _, sleeps := range []bool{true, false} {
		for stands := 1; stands < 9; stands++ {
			bell := cell.New(0)
			a, b := newPipe(2, bell), newPipe(2, bell)
			c, l := choice.New(bell), []choice.Case{{Pipe: a}, {Pipe: b}}
			var got results
			r := gate.Run(aid.Goes([2]int{0, stands}, [2]int{1, 7}), api.MaxTurns, func(t *gate.Thread) {
				if sleeps {
					got = resultsOf(c.Select(t, l...))
				} else {
					got = resultsOf(c.Try(t, l...))
				}
			}, func(t *gate.Thread) {
				bell.Load(t)
				clear(l)
				l[1] = choice.Case{Pipe: a, Send: true, Value: 9}
				b.TrySend(t, 4)
			})
			want := results{1, 4, true, 0}
			if !sleeps && stands > 5 { // it has looked at b's turn
				want = results{-1, 0, false, 0}
			}
			if r.End != api.Over || got != want {
				t.Errorf("P21.3, P21.4, R5: it sleeps %v, and stands at %d: %v: %s", sleeps, stands, got, aid.Texts(r.Log))
			}
		}
	}
}

// TestStopped: threads that are stopped at whatever accesses of their calls: the gate's own panic comes out of them, then and at each later call, and nothing is changed but by what was done, as by the words.
func TestStopped(t *testing.T) {
	later := []call{tries(from(0), from(1)), picks(into(0, 31)), tries(), picks(from(null)), closes(0)}
	for _, first := range [][]call{nil, {puts(0, 1)}, {puts(0, 1), puts(0, 2)}, {closes(0)}, {puts(1, 1), closes(1)}} {
		for _, mine := range [][]call{{tries(from(0), from(1)), picks(from(0), into(1, 11))}, {picks(into(0, 11), into(1, 12)), tries(from(0))}, {picks(from(0), from(1)), picks(from(0), from(1))}} {
			for turns := range 22 {
				stopped(t, first, mine, later, turns)
			}
		}
	}
}

// stopped: a thread that makes these calls is stopped behind so many turns.
func stopped(t *testing.T, first, mine, later []call, turns int) {
	t.Helper()
	p := newPair(t, two, first...)
	out := map[*world][]bool{} // whether the gate's own panic comes out
	leaves := func(w *world) aid.Body {
		return func(t *gate.Thread) {
			out[w] = append(out[w], gate.Is(aid.Caught(func() { w.makes(t, mine...) })))
			for _, c := range later {
				out[w] = append(out[w], gate.Is(aid.Caught(func() { w.makes(t, c) })))
			}
		}
	}
	r, faults := aid.MirrorTold(nil, turns, []aid.Body{leaves(p.is)}, []aid.Body{leaves(p.as)}, &p.is.story, &p.as.story)
	from := slices.Index(out[p.is], true)
	for i, is := range out[p.is] {
		makesNone := i == 3 || i == 4 // those are refused
		if is != (from >= 0 && i >= from && !makesNone) {
			t.Errorf("R1: the number %d: whether the gate's own panic comes out: %v", i, is)
		}
	}
	if !slices.Equal(out[p.is], out[p.as]) || (from >= 0) != (len(r.Left) > 0) {
		t.Errorf("R1: the gate's own panic comes out of the calls %v", out[p.is])
	}
	for _, f := range faults {
		t.Errorf("R1, P21.2 to P21.4: %s", f)
	}
	p.is.facts.hurt = p.is.facts.hurt || len(p.is.facts.midst) > 0
	if p.ends(t); t.Failed() {
		t.Fatalf("behind %v: %v, %d turns: %s; left %s", first, mine, turns, aid.Texts(r.Log), aid.Texts(r.Left))
	}
}

// TestFallen: a body that falls beside its calls leaves all as it is; calls that it deferred are done.
func TestFallen(t *testing.T) {
	w := newWorld(made, two)
	r := gate.Run([]int{0, 1}, 99, func(t *gate.Thread) {
		defer w.makes(t, picks(into(0, 8), from(1)), closes(0))
		w.makes(t, tries(into(0, 7)))
		panic("x")
	}, func(t *gate.Thread) { w.makes(t, picks(from(0), from(1))) })
	_, told := w.one(picks(from(1), from(0)), picks(from(0)))
	if !slices.Equal(r.Fell, []int{0}) || r.End != api.Over || told != "select0(r1,r0):did@1_8 select0(r0):over@0" || len(w.facts.follows(false)) != 0 {
		t.Errorf("what follows: %s: %v: %s", told, w.facts.faults, aid.Texts(r.Log))
	}
}
