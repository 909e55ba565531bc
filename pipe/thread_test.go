package pipe_test

import (
	"math/rand"
	"slices"
	"testing"

	"treadle/aid"
	"treadle/api"
	"treadle/gate"
)

// TestAmongOthers: threads that meet in the midst of their calls; their accesses are those of the words.
func TestAmongOthers(t *testing.T) {
	type goes = [2]int
	const rest = 99
	full := []call{tries(1), tries(2)}
	for _, m := range []struct {
		what  string
		of    plan
		first []call
		calls [][]call
		picks []int
		told  string // in the order of the run, whoever it is
		left  string // who sleeps for good
	}{
		{"who receives is woken by a Close", one(2), nil, [][]call{{recvs}, {closes}}, aid.Goes(goes{0, 4}), "close0:did recv0:closed", ""},
		{"it is closed between a Recv's look at the bell and its try", one(2), nil, [][]call{{recvs}, {closes}}, aid.Goes(goes{0, 1}, goes{1, 3}), "close0:did recv0:closed", ""},
		{"it is closed between a Recv's look at the turn and that at in", one(2), nil, [][]call{{recvs}, {closes}}, aid.Goes(goes{0, 3}, goes{1, 3}), "close0:did recv0:closed", ""},
		{"it is closed, and not rung yet: who receives is told so", one(2), nil, [][]call{{recvs, recvs}, {closes}}, aid.Goes(goes{1, 2}, goes{0, 8}), "recv0:closed recv0:closed close0:did", ""},
		{"it is closed, and not rung yet: who sends is told so", one(2), nil, [][]call{{tries(5), sends(6)}, {closes}}, aid.Goes(goes{1, 2}, goes{0, 3}), "try0(5):closed send0(6):closed close0:did", ""},
		{"it is closed between a TrySend's look and its claim: it looks again", one(2), nil, [][]call{{tries(5)}, {closes}}, aid.Goes(goes{0, 2}, goes{1, 3}, goes{0, rest}), "close0:did try0(5):closed", ""},
		{"it is closed between a TrySend's claim and its end: what it claimed is received", one(2), nil, [][]call{{tries(5)}, {closes, recvs, recvs}}, aid.Goes(goes{0, 3}, goes{1, 9}), "close0:did try0(5):did recv0:did_5 recv0:closed", ""},
		{"what is claimed ahead of the Close is not there yet: who asks is not told that it is closed", one(2), nil, [][]call{{tries(5)}, {closes, asks, asks}}, aid.Goes(goes{0, 3}, goes{1, 6}, goes{0, rest}), "close0:did ask0:not try0(5):did ask0:did_5", ""},
		{"a TrySend comes between a Close's look and its claim: it looks again", one(2), nil, [][]call{{closes}, {tries(5), asks, asks}}, aid.Goes(goes{0, 1}, goes{1, 12}, goes{0, 4}), "try0(5):did ask0:did_5 close0:did ask0:closed", ""},
		{"two who close: one has, and has not rung yet", one(2), nil, [][]call{{closes}, {closes}}, []int{0, 1, 1, 0, 0, 0}, "close0:closed close0:did", ""},
		{"who sends sleeps till something is received", one(2), full, [][]call{{sends(9)}, {asks, asks, asks}}, aid.Goes(goes{0, 4}, goes{1, 6}, goes{0, rest}), "ask0:did_1 send0(9):did ask0:did_2 ask0:did_9", ""},
		{"something is received between a Send's look at the bell and its try", one(2), full, [][]call{{sends(9)}, {asks}}, aid.Goes(goes{0, 1}, goes{1, 6}, goes{0, rest}), "ask0:did_1 send0(9):did", ""},
		{"something is received between a Send's try and its sleep: it does not sleep", one(2), full, [][]call{{sends(9)}, {asks}}, aid.Goes(goes{0, 3}, goes{1, 6}, goes{0, rest}), "ask0:did_1 send0(9):did", ""},
		{"there is room for a Send, and the bell has not rung yet: it sleeps on no longer", one(2), full, [][]call{{sends(9)}, {asks}}, aid.Goes(goes{0, 3}, goes{1, 5}, goes{0, 1}, goes{1, 1}), "ask0:did_1 send0(9):did", ""},
		{"who sends is woken by a Close", one(2), full, [][]call{{sends(9)}, {closes, asks}}, aid.Goes(goes{0, 4}, goes{1, rest}), "close0:did ask0:did_1 send0(9):closed", ""},
		{"two who send, and room for one: the other one sleeps on", one(2), full, [][]call{{sends(8)}, {sends(9)}, {asks, closes}}, aid.Goes(goes{0, 6}, goes{0, 6}, goes{0, 8}, goes{0, 4}, goes{0, 3}), "ask0:did_1 send0(8):did close0:did send0(9):closed", ""},
		{"two who receive, and something for one: the other one sleeps for good", one(2), nil, [][]call{{recvs}, {recvs}, {tries(5)}}, aid.Goes(goes{0, 8}), "try0(5):did recv0:did_5", "1 park c0 2: 2"},
		{"one who waits for room in the pipe that he alone empties sleeps for good", one(2), full, [][]call{{sends(9), asks}, {hears}}, nil, "hear0:2", "0 park c0 2: 2"},
		{"two pipes with one bell: what is done to the other one wakes in vain", two, nil, [][]call{{recvs}, {tries(5).on(1), asks.on(1)}}, aid.Goes(goes{0, 4}, goes{1, 6}, goes{0, 5}), "try1(5):did ask1:did_5", "0 park c0 -9223372036854775808: -9223372036854775808"},
		{"two pipes with one bell: each wakes its own", two, nil, [][]call{{recvs}, {recvs.on(1)}, {tries(5).on(1), closes}}, aid.Goes(goes{0, 8}, goes{0, 6}, goes{1, 11}), "try1(5):did recv1:did_5 close0:did recv0:closed", ""},
		{"two pipes with bells of their own: what is done to one wakes nobody who sleeps on the other", plan{rooms: []int{2, 2}}, nil, [][]call{{recvs}, {tries(5).on(1), closes.on(1)}}, aid.Goes(goes{0, 4}), "try1(5):did close1:did", "0 park c0 0: 0"},
		{"the bell is rung by hand: who sleeps tries again, and sleeps on", one(2), nil, [][]call{{recvs}, {rings(3), tries(5)}}, aid.Goes(goes{0, 4}, goes{1, 1}, goes{0, 4}, goes{1, 6}), "ring0(3):3 try0(5):did recv0:did_5", ""},
		{"the bell is rung there and back: nobody is told, and nothing is lost", one(2), nil, [][]call{{recvs}, {rings(3), rings(-3), tries(5)}}, aid.Goes(goes{0, 4}, goes{1, 8}), "ring0(3):3 ring0(-3):0 try0(5):did recv0:did_5", ""},
		{"values go from one pipe into another, and it is closed behind them", plan{rooms: []int{2, 2}}, nil, [][]call{{recvs, sends(7).on(1), recvs, closes.on(1)}, {sends(5), closes}, {recvs.on(1), recvs.on(1)}}, nil, "send0(5):did close0:did recv0:did_5 send1(7):did recv0:closed close1:did recv1:did_7 recv1:closed", ""},
	} {
		p := newPair(t, m.of, m.first...)
		from := len(p.is.story)
		r := p.run(t, m.calls, m.picks, api.MaxTurns)
		end := api.Over
		if m.left != "" {
			end = api.Dead
		}
		if s, left := p.is.story[from:].String(), aid.Texts(r.Left); s != m.told || left != m.left || r.End != end {
			t.Errorf("P20.2 to P20.5: %s: end %d, left %s:\n got %s\nwant %s: %s", m.what, r.End, left, s, m.told, aid.Texts(r.Log))
		}
		p.ends(t)
	}
}

// TestLate: a thread that stands at whatever access of a call, while others make all kinds of calls; then it goes on, or never does.
func TestLate(t *testing.T) {
	firsts := [][]call{nil, {tries(1)}, {tries(1), tries(2)}, {tries(1), asks}, {tries(1), asks, tries(2), tries(3)}, {closes}, {tries(1), closes}, {tries(1), tries(2), closes}}
	calls := []call{tries(11), asks, sends(11), recvs, closes}
	others := [][]call{{tries(21), asks}, {asks, tries(21)}, {tries(21), tries(22), tries(23)}, {asks, asks, asks}, {closes, asks}, {tries(21), closes, closes}, {sends(21), recvs}, {recvs, sends(21)}, {tries(21), asks, tries(22), asks, tries(23), asks, closes, asks}}
	for _, first := range firsts {
		for _, c := range calls {
			for _, other := range others {
				for stands := range 8 {
					for _, goesOn := range []bool{true, false} {
						p, most := newPair(t, one(2), first...), api.MaxTurns
						picks := aid.Goes([2]int{0, stands}, [2]int{1, 99})
						if !goesOn { // so many turns as the other one has then
							r := p.run(t, [][]call{{c}, other}, picks, api.MaxTurns)
							for most = 0; most < len(r.Went) && (most < stands || r.Went[most] != 0); most++ {
							}
							p = newPair(t, one(2), first...)
						}
						r := p.run(t, [][]call{{c}, other}, picks, most)
						if p.ends(t); t.Failed() || goesOn && r.End == api.Cut {
							t.Fatalf("behind %v: %v stands at %d, beside %v: %s", first, c, stands, other, aid.Texts(r.Log))
						}
					}
				}
			}
		}
	}
}

// TestAnew: whoever is forestalled, or comes late, or wakes in vain, goes round again, however often; and has what is his then.
func TestAnew(t *testing.T) {
	const times = 100
	type goes = [2]int
	fills := func(n int) (l []call) {
		for i := range n {
			l = append(l, tries(int64(i)))
		}
		return l
	}
	for _, row := range []struct {
		what   string
		of     plan
		first  []call
		c      call
		others []call
		picks  []int // again and again
		turns  int
		told   string // what it is told at last
	}{
		{"a TrySend, forestalled", one(256), nil, tries(-9), fills(times), aid.Goes(goes{0, 2}, goes{1, 6}, goes{0, 1}), 9*times + 6, "did"},
		{"a TrySend, late", one(256), nil, tries(-9), fills(times), aid.Goes(goes{0, 1}, goes{1, 6}, goes{0, 1}), 8*times + 6, "did"},
		{"a TrySend, forestalled till there is no room", one(256), fills(256 - times), tries(-9), fills(times), aid.Goes(goes{0, 2}, goes{1, 6}, goes{0, 1}), 9*times + 2, "not"},
		{"a TryRecv, forestalled", one(256), fills(2 * times), asks, slices.Repeat([]call{asks}, times), aid.Goes(goes{0, 2}, goes{1, 6}, goes{0, 1}), 9*times + 6, "did_100"},
		{"a TryRecv, late", one(256), fills(2 * times), asks, slices.Repeat([]call{asks}, times), aid.Goes(goes{0, 1}, goes{1, 6}, goes{0, 1}), 8*times + 6, "did_100"},
		{"a TryRecv, forestalled till nothing is left", one(256), fills(times), asks, slices.Repeat([]call{asks}, times), aid.Goes(goes{0, 2}, goes{1, 6}, goes{0, 1}), 9*times + 3, "not"},
		{"a Close, forestalled", one(256), nil, closes, fills(times), aid.Goes(goes{0, 1}, goes{1, 6}, goes{0, 1}), 8*times + 3, "did"},
		{"a Send, woken in vain", one(2), fills(2), sends(-9), append(slices.Repeat([]call{rings(1)}, times), asks), aid.Goes(goes{0, 3}, goes{1, 1}, goes{0, 1}), 5*times + 17, "did"},
		{"a Recv, woken in vain", one(2), nil, recvs, append(slices.Repeat([]call{rings(1)}, times), tries(7)), aid.Goes(goes{0, 4}, goes{1, 1}, goes{0, 1}), 6*times + 18, "did_7"},
	} {
		p := newPair(t, row.of, row.first...)
		from := len(p.is.story)
		r := p.run(t, [][]call{{row.c}, row.others}, slices.Repeat(row.picks, times), api.MaxTurns)
		told := ""
		for _, x := range p.is.story[from:] {
			if x.Thread == 0 {
				told = x.Text
			}
		}
		if r.End != api.Over || r.Turns != row.turns || told != row.c.String()+":"+row.told {
			t.Errorf("P20.2 to P20.5: %s: end %d, %d turns: %s", row.what, r.End, r.Turns, told)
		}
		p.ends(t)
	}
}

// TestMany: so many threads that go by turns, at their accesses all at one time.
func TestMany(t *testing.T) {
	for seed := range 24 {
		of := plan{rooms: []int{2, 4, 2}, shared: seed%2 == 0}
		calls := make([][]call, 30)
		for h := range calls {
			i, v := h%3, int64(100*h)
			calls[h] = [][]call{
				{sends(v), sends(v + 1), sends(v + 2)}, {recvs, recvs, recvs}, {tries(v), asks, tries(v + 1), asks}, {sends(v), recvs, recvs, sends(v + 1)}, {recvs, tries(v), hears, closes},
			}[(h+seed)%5]
			for k := range calls[h] {
				calls[h][k].of = (i + k/2) % 3
			}
		}
		last := []call{closes, closes.on(1), closes.on(2)}
		p := newPair(t, of, tries(-1), tries(-2).on(1))
		r := p.run(t, append(calls, last), aid.Spread((seed%3)<<10, 7*(seed+1)), api.MaxTurns)
		if p.ends(t); t.Failed() || r.End != api.Over {
			t.Fatalf("W3, what follows: %d: end %d", seed, r.End)
		}
	}
}

// TestSomebodyCloses: runs in which each pipe is closed by one who sleeps on none: none is dead, whatever all others wait for.
func TestSomebodyCloses(t *testing.T) {
	slept := 0
	for seed := range int64(4000) {
		r := rand.New(rand.NewSource(seed))
		of, first, calls := some(r)
		for i := range of.rooms {
			calls = append(calls, append(slices.Repeat([]call{hears}, r.Intn(20)), closes.on(i)))
		}
		r.Shuffle(len(calls), func(i, j int) { calls[i], calls[j] = calls[j], calls[i] })
		p := newPair(t, of, first...)
		report := p.run(t, calls, aid.Mixed(seed, r.Intn, 120, []int{1, 2, 5, 9}), api.MaxTurns)
		for _, a := range report.Log {
			slept += aid.Digit(a.Op == api.OpPark)
		}
		if p.ends(t); t.Failed() || report.End != api.Over {
			t.Fatalf("W3, what follows: seed %d: %+v behind %v: %v: end %d: %s", seed, of, first, calls, report.End, aid.Texts(report.Log))
		}
	}
	if slept < 2000 {
		t.Errorf("the threads are no good: %d", slept)
	}
}

// line: threads that hand values on, from each pipe of a row into the next one, each pipe closed by the last one of those who send into it.
type line struct {
	hands []int // so many stand at each place of the row: the first ones send, the last ones receive alone
	each  int   // so many values each of the first ones sends
	left  []int // so many of those at each place have not ended
	got   []int64
}

func (l *line) bodies(w *world) (bodies []aid.Body) {
	l.left, l.got = slices.Clone(l.hands), nil
	for at, n := range l.hands {
		for h := range n {
			bodies = append(bodies, func(t *gate.Thread) {
				if at == 0 {
					for i := range l.each {
						w.makes(t, sends(int64(1000*h+i)))
					}
				} else {
					l.handsOn(t, w, at)
				}
				if l.left[at]--; l.left[at] == 0 && at < len(w.pipes) {
					w.makes(t, closes.on(at))
				}
			})
		}
	}
	return bodies
}

// handsOn receives until it is told that nothing comes any more.
func (l *line) handsOn(t *gate.Thread, w *world, at int) {
	for {
		v, e := w.pipes[at-1].Recv(t)
		if e != api.OK {
			return
		}
		if at == len(w.pipes) {
			l.got = append(l.got, v)
			continue
		}
		w.pipes[at].Send(t, v)
	}
}

// TestLines: of what is sent into the first pipe all comes out of the last one, once; and none is dead.
func TestLines(t *testing.T) {
	for seed := range int64(1500) {
		r := rand.New(rand.NewSource(seed))
		of := plan{shared: seed%2 == 0}
		l := &line{hands: []int{1 + r.Intn(3)}, each: r.Intn(7)}
		for range 1 + r.Intn(3) {
			of.rooms = append(of.rooms, 2<<r.Intn(2))
			l.hands = append(l.hands, 1+r.Intn(3))
		}
		var want []int64
		for h := range l.hands[0] {
			for i := range l.each {
				want = append(want, int64(1000*h+i))
			}
		}
		is, as := newWorld(made, of), newWorld(worded, of)
		same := *l
		report, faults := aid.MirrorTold(aid.Mixed(seed, r.Intn, 200, []int{1, 2, 5, 9, 20}), api.MaxTurns, l.bodies(is), same.bodies(as), &is.story, &as.story)
		inOrder := slices.Equal(l.got, want)
		slices.Sort(l.got)
		alone := l.hands[0] == 1 && slices.Max(l.hands) == 1
		if len(faults) > 0 || report.End != api.Over || !slices.Equal(l.got, want) || alone && !inOrder {
			t.Fatalf("W3, what follows: seed %d: %v: end %d: %v: %v", seed, l.hands, report.End, l.got, faults)
		}
	}
}

// TestStopped: threads that are stopped at whatever accesses of their calls: the gate's own panic comes out of them, then and at each later call, and nothing is changed but by what was done, as by the words.
func TestStopped(t *testing.T) {
	later := []call{closes, tries(31), asks, sends(32), recvs}
	for _, first := range [][]call{nil, {tries(1)}, {tries(1), tries(2)}, {closes}, {tries(1), asks, tries(2), closes}} {
		for _, mine := range [][]call{{tries(11), asks}, {asks, tries(11)}, {sends(11), recvs}, {recvs, sends(11)}, {closes, recvs, sends(11)}, {sends(11), sends(12), sends(13)}, {recvs, recvs, recvs}} {
			for turns := range 20 {
				stopped(t, first, mine, later, turns)
			}
		}
	}
}

// stopped: a thread that makes these calls is stopped behind so many turns.
func stopped(t *testing.T, first, mine, later []call, turns int) {
	t.Helper()
	p := newPair(t, one(2), first...)
	out := map[*world][]bool{} // whether the gate's own panic comes out
	leaves := func(w *world) aid.Body {
		return func(t *gate.Thread) {
			out[w] = append(out[w], gate.Is(aid.Caught(func() { w.makes(t, mine...) })))
			for _, c := range later {
				out[w] = append(out[w], gate.Is(aid.Caught(func() { w.makes(t, c) })))
			}
		}
	}
	r, faults := aid.MirrorTold(nil, turns, []aid.Body{leaves(p.is)}, []aid.Body{leaves(p.as)}, &p.is.story, &p.as.story)
	if from := slices.Index(out[p.is], true); !slices.Equal(out[p.is], out[p.as]) || (from >= 0) != (len(r.Left) > 0) || from >= 0 && slices.Contains(out[p.is][from:], false) {
		t.Errorf("R1: the gate's own panic comes out of the calls %v", out[p.is])
	}
	for _, f := range faults {
		t.Errorf("R1, P20.2 to P20.5: %s", f)
	}
	for _, f := range p.is.facts {
		f.hurt = f.hurt || len(f.midst) > 0
	}
	if p.ends(t); t.Failed() {
		t.Fatalf("behind %v: %v, %d turns: %s; left %s", first, mine, turns, aid.Texts(r.Log), aid.Texts(r.Left))
	}
}

// TestFallen: a body that falls beside its calls leaves the pipe as it is; calls that it deferred are done.
func TestFallen(t *testing.T) {
	w := newWorld(made, one(2))
	r := gate.Run([]int{0, 1}, 99, func(t *gate.Thread) {
		defer w.makes(t, sends(8), closes)
		w.makes(t, sends(7))
		panic("x")
	}, func(t *gate.Thread) { w.makes(t, recvs) })
	_, told := w.one(recvs, recvs)
	if !slices.Equal(r.Fell, []int{0}) || r.End != api.Over || told != "recv0:did_8 recv0:closed" || len(w.follows(false)) != 0 {
		t.Errorf("what follows: %s: %v: %s", told, w.follows(false), aid.Texts(r.Log))
	}
}
