package steal_test

import (
	"math"
	"slices"
	"testing"

	"treadle/aid"
	"treadle/api"
	"treadle/deque"
	"treadle/gate"
	"treadle/steal"
)

// TestAmongOthers: threads that meet in the midst of their calls.
func TestAmongOthers(t *testing.T) {
	type goes = [2]int
	const rest = 99
	two, three := []int{0, 1}, []int{0, 1, 2}
	for _, m := range []struct {
		what  string
		of    []spot
		calls [][]call
		picks []int
		log   string // none: it is not told here
		want  [][]answer
	}{
		{"who is Lost tries again, and gets the next one", []spot{holds(7, 8), none}, [][]call{{ones(1, two...)}, {steals(0)}}, aid.Goes(goes{0, 3}, goes{1, 4}),
			"0 load c0: 0; 0 load c1: 2; 0 load c2: 7; 1 load c0: 0; 1 load c1: 2; 1 load c2: 7; 1 cas c0 0 1: 0 ok; 0 cas c0 0 1: 1 no; 0 load c0: 1; 0 load c1: 2; 0 load c3: 8; 0 cas c0 1 2: 1 ok",
			[][]answer{{got(0, 8)}, {stolen(7)}}},
		{"who is Lost, and then finds nothing, goes on to the next deque", []spot{holds(7), holds(9), none}, [][]call{{ones(2, three...)}, {steals(0)}}, aid.Goes(goes{0, 3}, goes{1, 4}),
			"0 load c0: 0; 0 load c1: 1; 0 load c2: 7; 1 load c0: 0; 1 load c1: 1; 1 load c2: 7; 1 cas c0 0 1: 0 ok; 0 cas c0 0 1: 1 no; 0 load c0: 1; 0 load c1: 1; 0 load c3: 0; 0 load c4: 1; 0 load c5: 9; 0 cas c3 0 1: 0 ok",
			[][]answer{{got(1, 9)}, {stolen(7)}}},
		{"who is Lost at the last deque, and then finds nothing, is told so", []spot{holds(), holds(9), none}, [][]call{{ones(2, three...)}, {steals(1)}}, aid.Goes(goes{0, 5}, goes{1, 4}),
			"0 load c0: 0; 0 load c1: 0; 0 load c2: 0; 0 load c3: 1; 0 load c4: 9; 1 load c2: 0; 1 load c3: 1; 1 load c4: 9; 1 cas c2 0 1: 0 ok; 0 cas c2 0 1: 1 no; 0 load c2: 1; 0 load c3: 1",
			[][]answer{{nothing}, {stolen(9)}}},
		{"the owner has the last one ahead of the thief", []spot{holds(7), none}, [][]call{{ones(1, two...)}, {pops(0)}}, aid.Goes(goes{0, 3}, goes{1, rest}),
			"0 load c0: 0; 0 load c1: 1; 0 load c2: 7; 1 load c1: 1; 1 store c1 0: 1; 1 load c0: 0; 1 load c2: 7; 1 cas c0 0 1: 0 ok; 1 store c1 1: 0; 0 cas c0 0 1: 1 no; 0 load c0: 1; 0 load c1: 1",
			[][]answer{{nothing}, {popped(7)}}},
		{"the stage's: one tries another one's ahead of the deque that both come to", []spot{holds(7, 8), holds(), holds()}, [][]call{{ones(2, three...)}, {ones(1, three...)}}, []int{0, 0, 0, 1, 1, 1, 1, 0},
			"0 load c0: 0; 0 load c1: 2; 0 load c2: 7; 1 load c3: 0; 1 load c4: 0; 1 load c0: 0; 1 load c1: 2; 0 cas c0 0 1: 0 ok; 1 load c2: 7; 1 cas c0 0 1: 1 no; 1 load c0: 1; 1 load c1: 2; 1 load c5: 8; 1 cas c0 1 2: 1 ok",
			[][]answer{{got(0, 7)}, {got(0, 8)}}},
		{"a Some that is Lost in its midst goes on", []spot{holds(7, 8, 9), none}, [][]call{{somes(9, 1, two...)}, {steals(0)}}, aid.Goes(goes{0, 7}, goes{1, 4}), "", [][]answer{{all(0, 7, 9)}, {stolen(8)}}},
		{"a Some that is Lost at its first goes on", []spot{holds(7, 8, 9), none}, [][]call{{somes(2, 1, two...)}, {steals(0)}}, aid.Goes(goes{0, 3}, goes{1, 4}), "", [][]answer{{all(0, 8, 9)}, {stolen(7)}}},
		{"a Some that has something stays at that deque, though others empty it", []spot{holds(7, 8), holds(9), none}, [][]call{{somes(9, 2, three...)}, {steals(0)}}, aid.Goes(goes{0, 4}, goes{1, 4}),
			"0 load c0: 0; 0 load c1: 2; 0 load c2: 7; 0 cas c0 0 1: 0 ok; 1 load c0: 1; 1 load c1: 2; 1 load c3: 8; 1 cas c0 1 2: 1 ok; 0 load c0: 2; 0 load c1: 2",
			[][]answer{{all(0, 7)}, {stolen(8)}}},
		{"a Some that is Lost at what would be its second, and then finds nothing", []spot{holds(7, 8), holds(9), none}, [][]call{{somes(9, 2, three...)}, {steals(0)}}, aid.Goes(goes{0, 7}, goes{1, 4}), "", [][]answer{{all(0, 7)}, {stolen(8)}}},
		{"a Some gets what is pushed meanwhile, too", []spot{holds(7), none}, [][]call{{somes(9, 1, two...)}, {pushes(0, 8), pushes(0, 9)}}, aid.Goes(goes{0, 4}, goes{1, 8}), "", [][]answer{{all(0, 7, 8, 9)}, {okay, okay}}},
		{"a Some that has enough does not", []spot{holds(7), none}, [][]call{{somes(2, 1, two...)}, {pushes(0, 8), pushes(0, 9)}}, aid.Goes(goes{0, 4}, goes{1, 8}), "", [][]answer{{all(0, 7, 8)}, {okay, okay}}},
		{"what comes behind the try that was in vain a Some does not see", []spot{holds(7), holds(9), none}, [][]call{{somes(9, 2, three...)}, {pushes(0, 8)}}, aid.Goes(goes{0, 6}, goes{1, 4}), "", [][]answer{{all(0, 7)}, {okay}}},
		{"a deque that was tried in vain is not tried again", []spot{holds(), holds(), none}, [][]call{{ones(2, three...)}, {pushes(0, 7)}}, aid.Goes(goes{0, 2}, goes{1, 4}), "0 load c0: 0; 0 load c1: 0; 1 load c1: 0; 1 load c0: 0; 1 store c2 7: 0; 1 store c1 1: 0; 0 load c3: 0; 0 load c4: 0", [][]answer{{nothing}, {okay}}},
		{"each was empty at some moment, though never all at one time", []spot{holds(), holds(9), none}, [][]call{{ones(2, three...)}, {pushes(0, 7), steals(1)}}, aid.Goes(goes{0, 2}, goes{1, 8}), "", [][]answer{{nothing}, {okay, stolen(9)}}},
		{"what comes into a deque ahead of the look at its bottom is got", []spot{holds(), none}, [][]call{{ones(1, two...)}, {pushes(0, 7)}}, aid.Goes(goes{0, 1}, goes{1, 4}), "0 load c0: 0; 1 load c1: 0; 1 load c0: 0; 1 store c2 7: 0; 1 store c1 1: 0; 0 load c1: 1; 0 load c2: 7; 0 cas c0 0 1: 0 ok", [][]answer{{got(0, 7)}, {okay}}},
		{"two who steal from one another", []spot{holds(7), holds(8)}, [][]call{{ones(0, two...)}, {ones(1, two...)}}, nil, "0 load c0: 0; 1 load c1: 0; 0 load c2: 1; 1 load c3: 1; 0 load c4: 8; 1 load c5: 7; 0 cas c0 0 1: 0 ok; 1 cas c1 0 1: 0 ok", [][]answer{{got(1, 8)}, {got(0, 7)}}},
		{"one who steals from his own worker's deque by another's place, as he pops", []spot{holds(7, 8), none}, [][]call{{ones(1, two...), pops(0)}, {ones(1, two...)}}, aid.Goes(goes{0, 3}, goes{1, 4}), "", [][]answer{{got(0, 8), no}, {got(0, 7)}}},
	} {
		w := newWorld(m.of, m.calls)
		r := w.run(t, m.picks, api.MaxTurns)
		if s := aid.Texts(r.Log); m.log != "" && s != m.log || r.End != api.Over || !slices.EqualFunc(w.threads.Got, m.want, slices.Equal) {
			t.Errorf("P23.2, P23.3: %s: end %d, %v: %s", m.what, r.End, w.threads.Got, s)
		}
	}
}

// TestLostAgain: who is Lost again and again tries on, till he gets something, or nothing is there: at the first deque, and at another one.
func TestLostAgain(t *testing.T) {
	for _, times := range []int{1, 2, 3, 63, 64, 65, 1000, api.MaxRing - 4} {
		var values []int64
		for i := range int64(times) {
			values = append(values, i+1)
		}
		n := int64(times)
		more := append(slices.Clone(values), n+1, n+2)
		of := func(values []int64) spot { return spot{n: api.MaxRing, from: math.MaxInt64 - 500, has: values} }
		for _, m := range []struct {
			what  string
			of    []spot
			c     call
			ahead int // so many accesses it makes ahead of that deque
			want  answer
		}{
			{"a One, and gets one", []spot{of(more), holds(1), none}, ones(2, 0, 1, 2), 0, got(0, n+1)},
			{"a One, and goes on", []spot{of(values), holds(1), none}, ones(2, 0, 1, 2), 0, got(1, 1)},
			{"a One, and gets nothing", []spot{of(values), holds(), none}, ones(2, 0, 1, 2), 0, nothing},
			{"a One at the last deque", []spot{of(more), holds(), none}, ones(0, 0, 1, 0), 2, got(2, n+1)},
			{"a Some, and gets two", []spot{of(more), holds(1), none}, somes(3, 2, 0, 1, 2), 0, all(0, n+1, n+2)},
			{"a Some, and goes on", []spot{of(values), holds(1, 2), none}, somes(2, 2, 0, 1, 2), 0, all(1, 1, 2)},
			{"a Some, and gets nothing", []spot{of(values), none, none}, somes(1, 2, 0, 1, 2), 0, nothing},
			{"a Some, with one ahead of it", []spot{of(append([]int64{-4}, more...)), holds(9), none}, somes(math.MaxInt, 2, 0, 1, 2), 4, all(0, -4, n+1, n+2)},
			{"a Some, with two ahead of it", []spot{of(append([]int64{-4, -3}, values...)), holds(9), none}, somes(4, 2, 0, 1, 2), 8, all(0, -4, -3)},
		} {
			again := aid.Goes([2]int{0, 3}, [2]int{1, 4}, [2]int{0, 1}) // the other one steals what it is about to
			picks := slices.Concat(make([]int, m.ahead), slices.Repeat(again, times))
			w := newWorld(m.of, [][]call{{m.c}, slices.Repeat([]call{steals(0)}, times)})
			r := w.run(t, picks, api.MaxTurns)
			if a := w.threads.Got[0]; r.End != api.Over || !slices.Equal(a, []answer{m.want}) || w.did[0].lost != times {
				t.Errorf("P23.2, P23.3: %s: lost %d times, not %d: end %d, %v", m.what, w.did[0].lost, times, r.End, a)
			}
			if t.Failed() {
				t.FailNow()
			}
		}
	}
}

// TestLate: a thread that stands at whatever access of a call, while others push, pop and steal; then it goes on, or never does.
func TestLate(t *testing.T) {
	three := []int{0, 1, 2}
	for _, of := range [][]spot{{holds(1, 2, 3), holds(4), none}, {holds(1), {n: 2, has: []int64{4, 5}}, holds(6)}, {holds(), holds(), holds()}, {bare, holds(4, 5), holds()}} {
		for _, c := range []call{ones(2, three...), ones(0, three...), somes(2, 2, three...), somes(9, 2, three...), somes(2, 0, three...), ones(3, 1, 1, 1, 0)} {
			for _, other := range [][]call{{pushes(1, 21), pushes(1, 22)}, {pops(1), pops(1)}, {ones(2, three...), ones(2, three...)}, {somes(9, 2, three...)}, {steals(1), pushes(1, 21), steals(1)}, {somes(1, 0, three...), pushes(1, 21), pops(1), pushes(1, 22)}} {
				for stands := range 14 {
					for _, goesOn := range []bool{true, false} {
						late(t, of, c, other, stands, goesOn)
					}
				}
			}
		}
	}
}

// late: one who stands at the access of that number, while the other one makes his calls.
func late(t *testing.T, of []spot, c call, other []call, stands int, goesOn bool) {
	t.Helper()
	calls := [][]call{{c}, other}
	picks, most := aid.Goes([2]int{0, stands}, [2]int{1, 99}), api.MaxTurns
	w := newWorld(of, calls)
	if !goesOn { // so many turns as the other one has then
		r := w.run(t, picks, most)
		for most = 0; most < len(r.Went) && (most < stands || r.Went[most] != 0); most++ {
		}
		w = newWorld(of, calls)
	}
	r := w.run(t, picks, most)
	if t.Failed() || goesOn && r.End != api.Over {
		t.Fatalf("of %v: %+v stands at %d, beside %+v: end %d: %s", of, c, stands, other, r.End, aid.Texts(r.Log))
	}
}

// TestMany: as many threads as there may be, each the owner of a deque, that go by turns, at their accesses all at one time.
func TestMany(t *testing.T) {
	for seed := range 12 {
		of := make([]spot, api.MaxThreads)
		calls := make([][]call, len(of))
		every := upTo(len(of))
		for h := range of {
			of[h] = spot{n: 8, from: int64(1-seed) << 40}
			v := int64(100 * (h + 1))
			if h%(1+seed%5) == 0 {
				of[h].has = []int64{v, v + 1, v + 2, v + 3}
			}
			calls[h] = [][]call{
				{ones(h, every...), pushes(h, v+5), ones(h, every...), pops(h)},
				{somes(3, h, every...), pushes(h, v+5), pushes(h, v+6), somes(2, h, every...)},
				{pops(h), pops(h), ones(h, every...), somes(math.MaxInt, h, every...)},
				{ones(h, every...), ones(h, every...), ones(h, every...)},
			}[(h+seed)%4]
		}
		w := newWorld(of, calls)
		r := w.run(t, aid.Spread((seed%3)<<10, 7*(seed+1)), api.MaxTurns)
		if t.Failed() || r.End != api.Over {
			t.Fatalf("what follows: %d: end %d", seed, r.End)
		}
	}
}

// TestOthersWriteToTheList: what other threads do to a caller's list while a call goes through it is not seen: neither deques that were not tried yet, nor the one of which there is got more.
func TestOthersWriteToTheList(t *testing.T) {
	for stands := 1; stands < 12; stands++ {
		l := []*deque.Deque{holds().deque(), holds(7, 8, 9).deque(), holds(5).deque()}
		list := slices.Clone(l)
		var x int64
		var row []int64
		var from, by int
		r := gate.Run(aid.Goes([2]int{0, stands}, [2]int{1, 1}), 99, func(t *gate.Thread) {
			x, from, _ = steal.One(t, list, 2)
			row, by = steal.Some(t, list, 2, 9)
		}, func(t *gate.Thread) {
			t.Go(nil)
			list[0], list[1] = l[2], nil
		})
		wantRow, wantBy := []int64{8, 9}, 1
		if stands < 6 { // the Some begins behind that
			wantRow, wantBy = []int64{5}, 0
		}
		if r.End != api.Over || x != 7 || from != 1 || !slices.Equal(row, wantRow) || by != wantBy {
			t.Errorf("P23.2, P23.3, R5: it stands at %d: %d of %d, %v of %d: %s", stands, x, from, row, by, aid.Texts(r.Log))
		}
	}
}

// TestStopped: a thread that is stopped at whatever access of a call: the gate's own panic comes out of it, then and at each later call, and nothing is changed but by what was done: what a Some has got by then is gone.
func TestStopped(t *testing.T) {
	three := []int{0, 1, 2}
	of := []spot{holds(7, 8, 9), holds(), none}
	first := []string{"0 load c-1: 0", "0 load c-1: 3", "0 load c-1: 7", "0 cas c0 0 1: 0 no"}
	second := []string{"0 load c0: 1", "0 load c1: 3", "0 load c-1: 8", "0 cas c0 1 2: 1 no"}
	third := []string{"0 load c0: 2", "0 load c1: 3", "0 load c-1: 9", "0 cas c0 2 3: 2 no"}
	for _, row := range []struct {
		c      call
		stands []string // at which access it is stopped, when it had so many turns
	}{
		{ones(2, three...), first},
		{somes(1, 2, three...), first},
		{somes(2, 2, three...), slices.Concat(first, second)},
		{somes(9, 2, three...), slices.Concat(first, second, third, []string{"0 load c0: 3", "0 load c1: 3"})},
		{ones(0, three...), []string{"0 load c-1: 0", "0 load c-1: 0"}},
		{somes(9, 0, three...), []string{"0 load c-1: 0", "0 load c-1: 0"}},
		{ones(1, three...), first},
		{somes(2, 3, 1, 2, 0, 1), []string{"0 load c-1: 0", "0 load c-1: 0", "0 load c-1: 0", "0 load c-1: 3", "0 load c-1: 7", "0 cas c2 0 1: 0 no", "0 load c2: 1", "0 load c3: 3", "0 load c-1: 8", "0 cas c2 1 2: 1 no"}},
	} {
		for turns, stands := range row.stands {
			l := newDeques(of...)
			at, faults := aid.Stops(turns, func(t *gate.Thread, c call) { l.do(t, c) }, row.c, somes(9, 2, three...), ones(1, three...), ones(2, three...), somes(1, 0, three...))
			if at != stands || len(faults) != 0 {
				t.Errorf("R1: %+v, %d turns: it stands at %s, not %s: %v", row.c, turns, at, stands, faults)
			}
			gone := turns / 4
			if row.c.l[0] == 1 {
				gone = max(0, turns-2) / 4
			}
			want := []int64{7, 8, 9}[gone:]
			if rest := emptied(l[0]); !slices.Equal(rest, want) || len(emptied(l[1])) != 0 {
				t.Errorf("R1, what follows: %+v, %d turns: there are left %v, not %v", row.c, turns, rest, want)
			}
		}
	}
}

// TestStoppedCallsThatMakeNone: one that is stopped comes back from a call that makes no access.
func TestStoppedCallsThatMakeNone(t *testing.T) {
	l := newDeques(holds(7), none)
	var answers []answer
	r := gate.Run(nil, 1, func(t *gate.Thread) {
		defer func() {
			answers = l.makes(t, ones(0, 0), ones(0, 0, 1), somes(0, 1, 0, 1), somes(3, 0, 0, 1), ones(2, 0, 1))
		}()
		l.makes(t, ones(1, 0, 1))
	})
	if want := slices.Repeat([]answer{nothing}, 5); !slices.Equal(answers, want) || r.End != api.Cut || len(r.Fell) != 0 {
		t.Errorf("P23.2, P23.3: %v: %+v", answers, r)
	}
}

// TestFallen: a body that falls beside its calls leaves the deques as they are; calls that it deferred are done.
func TestFallen(t *testing.T) {
	l := newDeques(holds(5, 6, 7, 8), none)
	var answers []answer
	r := gate.Run([]int{0, 1}, 99, func(t *gate.Thread) {
		defer func() { answers = append(answers, l.do(t, somes(2, 1, 0, 1))) }()
		answers = append(answers, l.do(t, ones(1, 0, 1)))
		panic("x")
	}, func(t *gate.Thread) { l.do(t, ones(0, 0, 1)) })
	if rest := emptied(l[0]); !slices.Equal(r.Fell, []int{0}) || r.End != api.Over || !slices.Equal(answers, []answer{got(0, 5), all(0, 6, 7)}) || !slices.Equal(rest, []int64{8}) {
		t.Errorf("what follows: %v, and there is left %v: %+v", answers, rest, r)
	}
}
