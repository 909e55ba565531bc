package inbox_test

import (
	"slices"
	"testing"

	"treadle/aid"
	"treadle/api"
	"treadle/gate"
)

// meeting: threads that meet at one inbox, each with its own calls.
type meeting struct {
	what  string
	most  int
	first []call // free, ahead of the run
	calls [][]call
	picks []int
	log   string
	want  [][]answer
	then  []answer // what a free Begun, a Put and a Take answer behind it
}

func (m meeting) look(t *testing.T) {
	t.Helper()
	b := newInbox(m.most)
	makes(b, nil, m.first...)
	threads := aid.Scripts[call, answer]{Calls: m.calls, Do: func(t *gate.Thread, c call) answer { return do(b, t, c) }}
	r := gate.Run(m.picks, 99, threads.Bodies()...)
	if aid.Texts(r.Log) != m.log || r.End != api.Over || !slices.EqualFunc(threads.Got, m.want, slices.Equal) {
		t.Errorf("P22.2 to P22.4: %s:\n got %s, end %d, %v\nwant %s, %v", m.what, aid.Texts(r.Log), r.End, threads.Got, m.log, m.want)
	}
	if then := makes(b, nil, asks, puts(0), takes); !slices.Equal(then, m.then) {
		t.Errorf("P22.2 to P22.4: %s: behind it %v, not %v", m.what, then, m.then)
	}
}

// TestTable: the chapter's.
func TestTable(t *testing.T) {
	calls, behind := [][]call{{puts(7)}, {puts(8)}, {takes}}, []answer{at(2), full, all()}
	for _, m := range []meeting{
		{"one behind the other", 2, nil, calls, []int{0, 0, 0, 0, 0, 0, 0},
			"0 add c0 1: 0; 0 load c1: 0; 0 cas c1 0 1: 0 ok; 1 add c0 1: 1; 1 load c1: 1; 1 cas c1 1 2: 1 ok; 2 swap c1 0: 2",
			[][]answer{{at(1)}, {at(2)}, {all(7, 8)}}, behind},
		{"the later number is put first", 2, nil, calls, []int{0, 1, 1, 1, 0, 0, 2},
			"0 add c0 1: 0; 1 add c0 1: 1; 1 load c1: 0; 1 cas c1 0 2: 0 ok; 0 load c1: 2; 0 cas c1 2 1: 2 ok; 2 swap c1 0: 1",
			[][]answer{{at(1)}, {at(2)}, {all(8, 7)}}, behind},
		{"a Cas that is not done", 2, nil, calls, []int{0, 0, 1, 1, 1, 0, 0, 0, 2},
			"0 add c0 1: 0; 0 load c1: 0; 1 add c0 1: 1; 1 load c1: 0; 1 cas c1 0 2: 0 ok; 0 cas c1 0 1: 2 no; 0 load c1: 2; 0 cas c1 2 1: 2 ok; 2 swap c1 0: 1",
			[][]answer{{at(1)}, {at(2)}, {all(8, 7)}}, behind},
		{"who takes is first", 2, nil, calls, []int{2, 0, 0, 0},
			"2 swap c0 0: 0; 0 add c1 1: 0; 0 load c0: 0; 0 cas c0 0 1: 0 ok; 1 add c1 1: 1; 1 load c0: 1; 1 cas c0 1 2: 1 ok",
			[][]answer{{at(1)}, {at(2)}, {all()}}, []answer{at(2), full, all(7, 8)}},
		{"who takes is first, without more picks", 2, nil, calls, []int{2},
			"2 swap c0 0: 0; 0 add c1 1: 0; 1 add c1 1: 1; 0 load c0: 0; 1 load c0: 0; 0 cas c0 0 1: 0 ok; 1 cas c0 0 2: 1 no; 1 load c0: 1; 1 cas c0 1 2: 1 ok",
			[][]answer{{at(1)}, {at(2)}, {all()}}, []answer{at(2), full, all(7, 8)}},
	} {
		m.look(t)
	}
}

// TestAmongOthers: threads that meet in the midst of their calls.
func TestAmongOthers(t *testing.T) {
	one := []call{puts(1)}
	for _, m := range []meeting{
		{"a Take behind a Put's number", 9, one, [][]call{{puts(7)}, {takes}}, []int{0, 1},
			"0 add c0 1: 1; 1 swap c1 0: 1; 0 load c1: 0; 0 cas c1 0 2: 0 ok",
			[][]answer{{at(2)}, {all(1)}}, []answer{at(2), at(3), all(7, 0)}},
		{"a Take behind a Put's look", 9, one, [][]call{{puts(7)}, {takes}}, []int{0, 0, 1},
			"0 add c0 1: 1; 0 load c1: 1; 1 swap c1 0: 1; 0 cas c1 1 2: 0 no; 0 load c1: 0; 0 cas c1 0 2: 0 ok",
			[][]answer{{at(2)}, {all(1)}}, []answer{at(2), at(3), all(7, 0)}},
		{"a Take of nothing behind a Put's look", 9, nil, [][]call{{puts(7)}, {takes}}, []int{0, 0, 1},
			"0 add c0 1: 0; 0 load c1: 0; 1 swap c1 0: 0; 0 cas c1 0 1: 0 ok",
			[][]answer{{at(1)}, {all()}}, []answer{at(1), at(2), all(7, 0)}},
		{"a Take behind each access of a Put", 9, one, [][]call{{puts(7)}, {takes, takes, takes, takes, takes}}, []int{0, 1, 0, 1, 0, 1},
			"0 add c0 1: 1; 1 swap c1 0: 1; 0 load c1: 0; 1 swap c1 0: 0; 0 cas c1 0 2: 0 ok; 1 swap c1 0: 2; 1 swap c1 0: 0; 1 swap c1 0: 0",
			[][]answer{{at(2)}, {all(1), all(), all(7), all(), all()}}, []answer{at(2), at(3), all(0)}},
		{"put and taken while a Put looks at nothing", 9, nil, [][]call{{puts(7)}, {puts(8), takes}}, aid.Goes([2]int{0, 2}, [2]int{1, 4}),
			"0 add c0 1: 0; 0 load c1: 0; 1 add c0 1: 1; 1 load c1: 0; 1 cas c1 0 2: 0 ok; 1 swap c1 0: 2; 0 cas c1 0 1: 0 ok",
			[][]answer{{at(1)}, {at(2), all(8)}}, []answer{at(2), at(3), all(7, 0)}},
		{"taken and put while a Put looks at something", 9, one, [][]call{{puts(7)}, {takes, puts(8)}}, aid.Goes([2]int{0, 2}, [2]int{1, 4}),
			"0 add c0 1: 1; 0 load c1: 1; 1 swap c1 0: 1; 1 add c0 1: 2; 1 load c1: 0; 1 cas c1 0 3: 0 ok; 0 cas c1 1 2: 3 no; 0 load c1: 3; 0 cas c1 3 2: 3 ok",
			[][]answer{{at(2)}, {all(1), at(3)}}, []answer{at(3), at(4), all(8, 7, 0)}},
		{"forestalled by a Put, and by a Take", 9, nil, [][]call{{puts(7)}, {puts(8), takes}}, aid.Goes([2]int{0, 2}, [2]int{1, 3}, [2]int{0, 2}, [2]int{1, 1}),
			"0 add c0 1: 0; 0 load c1: 0; 1 add c0 1: 1; 1 load c1: 0; 1 cas c1 0 2: 0 ok; 0 cas c1 0 1: 2 no; 0 load c1: 2; 1 swap c1 0: 2; 0 cas c1 2 1: 0 no; 0 load c1: 0; 0 cas c1 0 1: 0 ok",
			[][]answer{{at(1)}, {at(2), all(8)}}, []answer{at(2), at(3), all(7, 0)}},
		{"two who take", 9, []call{puts(1), puts(2)}, [][]call{{takes, takes}, {takes}}, []int{1, 0},
			"1 swap c0 0: 2; 0 swap c0 0: 0; 0 swap c0 0: 0",
			[][]answer{{all(), all()}, {all(1, 2)}}, []answer{at(2), at(3), all(0)}},
		{"two who take, and one who puts in between", 9, one, [][]call{{takes}, {takes}, {puts(7)}}, []int{1, 1, 1, 1, 0},
			"1 swap c0 0: 1; 2 add c1 1: 1; 2 load c0: 0; 2 cas c0 0 2: 0 ok; 0 swap c0 0: 2",
			[][]answer{{all(7)}, {all(1)}, {at(2)}}, []answer{at(2), at(3), all(0)}},
		{"of two who are ahead of their Cas the one who has seen what is there lays first", 9, one, [][]call{{puts(7)}, {puts(8)}}, []int{0, 1, 1, 0, 1, 0, 0},
			"0 add c0 1: 1; 1 add c0 1: 2; 1 load c1: 1; 0 load c1: 1; 1 cas c1 1 3: 1 ok; 0 cas c1 1 2: 3 no; 0 load c1: 3; 0 cas c1 3 2: 3 ok",
			[][]answer{{at(2)}, {at(3)}}, []answer{at(3), at(4), all(1, 8, 7, 0)}},
		{"full, though the last item is not put", 1, nil, [][]call{{puts(7)}, {puts(8), asks, takes, takes}}, []int{0, 1, 1, 1, 0, 0, 1},
			"0 add c0 1: 0; 1 add c0 1: 1; 1 load c0: 2; 1 swap c1 0: 0; 0 load c1: 0; 0 cas c1 0 1: 0 ok; 1 swap c1 0: 1",
			[][]answer{{at(1)}, {full, at(1), all(), all(7)}}, []answer{at(1), full, all()}},
		{"the one who comes first has the last item", 2, one, [][]call{{puts(7)}, {puts(8)}, {puts(9)}}, []int{1, 0, 1, 1},
			"1 add c0 1: 1; 0 add c0 1: 2; 2 add c0 1: 3; 1 load c1: 1; 1 cas c1 1 2: 1 ok",
			[][]answer{{full}, {at(2)}, {full}}, []answer{at(2), full, all(1, 8)}},
		{"who asks in a Put's midst", 9, one, [][]call{{puts(7)}, {asks, asks, asks, asks}}, []int{1, 0, 1, 0, 1, 0, 1},
			"1 load c0: 1; 0 add c0 1: 1; 1 load c0: 2; 0 load c1: 1; 1 load c0: 2; 0 cas c1 1 2: 1 ok; 1 load c0: 2",
			[][]answer{{at(2)}, {at(1), at(2), at(2), at(2)}}, []answer{at(2), at(3), all(1, 7, 0)}},
		{"who asks where numbers are used up that no item has", 1, nil, [][]call{{puts(7), puts(6)}, {puts(8), asks}}, []int{1, 0, 0, 1},
			"1 add c0 1: 0; 0 add c0 1: 1; 0 add c0 1: 2; 1 load c1: 0; 1 cas c1 0 1: 0 ok; 1 load c0: 3",
			[][]answer{{full, full}, {at(1), at(1)}}, []answer{at(1), full, all(8)}},
	} {
		m.look(t)
	}
}

// TestLate: a thread that stands at whatever access of its calls, while another one makes all kinds of calls.
func TestLate(t *testing.T) {
	others := [][]call{
		{puts(5)}, {puts(5), puts(6), puts(8)}, {takes}, {puts(5), takes}, {takes, puts(5)}, {asks, puts(5), asks}, {puts(5), takes, puts(6), asks, takes}, {takes, takes}, {takes, puts(5), puts(6), takes, puts(8)},
	}
	for most := 1; most < 7; most++ {
		for has := range most + 1 {
			for _, c := range []call{puts(9), takes, asks} {
				for _, other := range others {
					for stands := range 8 {
						for goes := range 4 {
							w := newWorld(most, fills(has), [][]call{{c, puts(4), takes}, other})
							r := w.run(t, aid.Goes([2]int{0, stands}, [2]int{1, 3}, [2]int{0, goes}, [2]int{1, 3 * len(other)}), api.MaxTurns)
							if t.Failed() || r.End != api.Over {
								t.Fatalf("of %d items, %d of which are there: %v stands at %d, then at %d, beside %v: %s", most, has, c, stands, goes, other, aid.Texts(r.Log))
							}
						}
					}
				}
			}
		}
	}
}

// TestAnew: a Put that is forestalled goes back, however often; nobody else does meanwhile.
func TestAnew(t *testing.T) {
	const times = 300
	for what, others := range map[string]func(i int) call{
		"by Puts":           func(i int) call { return puts(int64(i)) },
		"by Puts and Takes": func(i int) call { return []call{puts(int64(i)), takes}[i%2] },
	} {
		var other []call
		picks := []int{0, 0}
		for i := range times {
			c := others(i)
			other = append(other, c)
			picks = append(picks, aid.Goes([2]int{1, 3 - 2*c.op}, [2]int{0, 2})...)
		}
		w := newWorld(times+1, nil, [][]call{{puts(9)}, other})
		r := w.run(t, picks, api.MaxTurns)
		if got := w.threads.Got[0]; r.End != api.Over || !slices.Equal(got, []answer{at(1)}) || len(w.did[0].tries) != times+1 {
			t.Errorf("P22.2: %s: %d tries: %v", what, len(w.did[0].tries), got)
		}
		if i := slices.IndexFunc(w.did, func(d *did) bool { return len(d.tries) > 1 }); i != 0 {
			t.Errorf("what follows: %s: the call number %d goes round, too", what, i)
		}
	}
}

// TestMany: so many threads that go by turns, at their accesses all at one time: each puts, or is refused; some take meanwhile.
func TestMany(t *testing.T) {
	const threads, each = 32, 4
	for _, most := range []int{1, threads, threads * each, api.MaxTasks} {
		for _, takers := range []int{0, 1, 3, threads} {
			for _, step := range []int{0, 1, 7, -3} {
				calls := make([][]call, threads+takers)
				for h := range calls {
					for i := range each {
						if h < threads {
							calls[h] = append(calls[h], puts(int64(each*h+i)), asks)
						} else {
							calls[h] = append(calls[h], takes, takes)
						}
					}
				}
				w := newWorld(most, nil, calls)
				if r := w.run(t, aid.Spread(400*min(1, step*step), step), api.MaxTurns); t.Failed() || r.End != api.Over {
					t.Fatalf("what follows: of %d items, %d who take, picks by %d: end %d", most, takers, step, r.End)
				}
				done := 0
				for _, d := range w.did {
					done += aid.Digit(d.call.op == put && d.answer.e == api.OK)
				}
				if done != min(most, threads*each) {
					t.Fatalf("what follows: of %d items: %d are put", most, done)
				}
			}
		}
	}
}

// TestSomebodyGetsOn: of so many who put, and go round together, one lays his item in each round; whichever is first.
func TestSomebodyGetsOn(t *testing.T) {
	for many := 1; many <= 20; many++ {
		for first := range many {
			calls := make([][]call, many)
			for h := range calls {
				calls[h] = []call{puts(int64(h))}
			}
			picks := aid.Spread(many, 1) // each gets his number
			for left := many; left > 0; left-- {
				picks = append(picks, aid.Spread(left, 1)...)   // each looks
				picks = append(picks, first%left)               // one lays
				picks = append(picks, aid.Spread(left-1, 1)...) // the others do not
			}
			w := newWorld(many, nil, calls)
			r := w.run(t, picks, api.MaxTurns)
			if want := many + many*(many+1); t.Failed() || r.End != api.Over || r.Turns != want {
				t.Fatalf("what follows: %d who put, the number %d first: end %d, %d turns, not %d", many, first, r.End, r.Turns, want)
			}
		}
	}
}

// TestStopped: a thread that is stopped at whatever access of a call: the gate's own panic comes out of it, then and at each later call, and nothing is changed but by what was done: the number that it was given is nobody else's for good.
func TestStopped(t *testing.T) {
	later := []call{asks, takes, puts(4), puts(5), puts(6), asks, takes, takes, puts(6)}
	told := func(n int, had, has answer, k ...answer) []answer { // of an inbox of three
		return slices.Concat([]answer{at(n), had}, k, []answer{at(3), has, all(), full})
	}
	one := []call{puts(7)}
	none, lost := told(1, all(7), all(4, 5), at(2), at(3), full), told(2, all(7), all(4), at(3), full, full)
	for _, row := range []struct {
		first  []call
		c      call
		stands []string   // at which access it is stopped, when it had so many turns
		later  [][]answer // what free calls are answered then
	}{
		{one, puts(9), []string{"0 add c-1 1: 1", "0 load c-1: 1", "0 cas c1 1 2: 1 no"}, [][]answer{none, lost, lost}},
		{append(one, takes), puts(9), []string{"0 add c-1 1: 1", "0 load c-1: 0", "0 cas c1 0 2: 0 no"}, [][]answer{told(1, all(), all(4, 5), at(2), at(3), full), told(2, all(), all(4), at(3), full, full), told(2, all(), all(4), at(3), full, full)}},
		{fills(3), puts(9), []string{"0 add c-1 1: 3"}, [][]answer{told(3, all(-1000, -1001, -1002), all(), full, full, full)}},
		{one, takes, []string{"0 swap c-1 0: 1"}, [][]answer{none}},
		{nil, takes, []string{"0 swap c-1 0: 0"}, [][]answer{told(0, all(), all(4, 5, 6), at(1), at(2), at(3))}},
		{one, asks, []string{"0 load c-1: 1"}, [][]answer{none}},
	} {
		for turns, stands := range row.stands {
			b := newInbox(3)
			makes(b, nil, row.first...)
			at, faults := aid.Stops(turns, func(t *gate.Thread, c call) { do(b, t, c) }, row.c, puts(3), takes, asks, puts(3))
			if at != stands || len(faults) != 0 {
				t.Errorf("R1: %+v, %d turns: it stands at %s: %v", row.c, turns, at, faults)
			}
			if got := makes(b, nil, later...); !slices.Equal(got[:len(row.later[turns])], row.later[turns]) {
				t.Errorf("R1, what follows: behind %v: %+v, %d turns: then %v, not %v", row.first, row.c, turns, got, row.later[turns])
			}
		}
	}
}

// TestStoppedAnew: a thread that is stopped in a Put that was forestalled, among others that are stopped, too: that Put answers nothing.
func TestStoppedAnew(t *testing.T) {
	goes := []int{0, 0, 1, 1, 1, 0, 0, 1, 1, 1, 1, 0, 0}
	for turns, row := range map[int]struct {
		left string
		got  []answer // by the thread 1
		then []answer // what a free Take, a Put and a Take are answered
	}{
		6:  {"0 load c1: 2; 1 add c0 1: 2", []answer{at(2)}, []answer{all(2), at(3), all(0)}},
		7:  {"0 cas c1 2 1: 2 no; 1 add c0 1: 2", []answer{at(2)}, []answer{all(2), at(3), all(0)}},
		8:  {"0 cas c1 2 1: 2 no; 1 load c1: 2", []answer{at(2)}, []answer{all(2), at(4), all(0)}},
		9:  {"0 cas c1 2 1: 2 no; 1 cas c1 2 3: 2 no", []answer{at(2)}, []answer{all(2), at(4), all(0)}},
		10: {"0 cas c1 2 1: 3 no; 1 swap c1 0: 3", []answer{at(2), at(3)}, []answer{all(2, 3), at(4), all(0)}},
		11: {"0 cas c1 2 1: 0 no", []answer{at(2), at(3), all(2, 3)}, []answer{all(), at(4), all(0)}},
		12: {"0 load c1: 0", []answer{at(2), at(3), all(2, 3)}, []answer{all(), at(4), all(0)}},
		13: {"0 cas c1 0 1: 0 no", []answer{at(2), at(3), all(2, 3)}, []answer{all(), at(4), all(0)}},
	} {
		b := newInbox(9)
		threads := aid.Scripts[call, answer]{Calls: [][]call{{puts(1), asks}, {puts(2), puts(3), takes}}, Do: func(t *gate.Thread, c call) answer { return do(b, t, c) }}
		r := gate.Run(goes, turns, threads.Bodies()...)
		if got := threads.Got; aid.Texts(r.Left) != row.left || r.End != api.Cut || len(r.Fell) != 0 || len(got[0]) != 0 || !slices.Equal(got[1], row.got) {
			t.Errorf("R1: %d turns: %s: %v", turns, aid.Texts(r.Left), got)
		}
		if got := makes(b, nil, takes, puts(0), takes); !slices.Equal(got, row.then) {
			t.Errorf("R1, what follows: %d turns: then %v, not %v", turns, got, row.then)
		}
	}
}

// TestFallen: a body that falls beside its calls leaves the inbox as it is.
func TestFallen(t *testing.T) {
	b := newInbox(3)
	r := gate.Run([]int{0, 0, 0, 0, 1, 1, 1}, 99, func(t *gate.Thread) {
		defer b.Put(t, 8)
		b.Put(t, 7)
		panic("x")
	}, func(t *gate.Thread) { b.Put(t, 6) })
	if got := makes(b, nil, takes); !slices.Equal(r.Fell, []int{0}) || r.End != api.Over || got[0] != all(7, 6, 8) {
		t.Errorf("what follows: %v: %+v", got, r)
	}
}

// TestPanicked: who recovers a panic of his own between his calls goes on with them.
func TestPanicked(t *testing.T) {
	b := newInbox(3)
	var row []int64
	r := gate.Run(nil, 99, func(t *gate.Thread) {
		for v := range int64(4) {
			_ = aid.Caught(func() {
				defer panic("x")
				b.Put(t, v)
			})
		}
		defer func() { row = b.Take(t) }()
	})
	if r.End != api.Over || !slices.Equal(row, []int64{0, 1, 2}) {
		t.Errorf("what follows: %v: %+v", row, r)
	}
}
