package list_test

import (
	"slices"
	"testing"

	"treadle/aid"
	"treadle/api"
	"treadle/gate"
)

// meeting: threads that meet at one list, each with its own calls.
type meeting struct {
	what  string
	most  int
	first []call // free, ahead of the run
	calls [][]call
	picks []int
	log   string
	want  [][]answer
	then  []answer // what a free Each, an Add and a Close answer behind it
}

func (m meeting) look(t *testing.T) {
	l := newList(m.most)
	makes(l, nil, m.first...)
	threads := aid.Scripts[call, answer]{Calls: m.calls, Do: func(t *gate.Thread, c call) answer { return do(l, t, c) }}
	r := gate.Run(m.picks, 99, threads.Bodies()...)
	if aid.Texts(r.Log) != m.log || r.End != api.Over || !slices.EqualFunc(threads.Got, m.want, slices.Equal) {
		t.Errorf("P9.2 to P9.4: %s:\n got %s, end %d, %v\nwant %s, %v", m.what, aid.Texts(r.Log), r.End, threads.Got, m.log, m.want)
	}
	if then := makes(l, nil, looks, adds(0), closes); !slices.Equal(then, m.then) {
		t.Errorf("P9.2 to P9.4: %s: behind it %v, not %v", m.what, then, m.then)
	}
}

// TestAmongOthers: threads that meet in the midst of their calls.
func TestAmongOthers(t *testing.T) {
	one, over := []call{adds(7)}, []answer{ended, gone, gone}
	for _, m := range []meeting{
		{"the chapter's", 9, nil, [][]call{{adds(1)}, {adds(2)}}, []int{0, 1, 0, 1, 0, 1, 1, 1},
			"0 load c0: 0; 1 load c0: 0; 0 add c1 1: 0; 1 add c1 1: 1; 0 cas c0 0 1: 0 ok; 1 cas c0 0 2: 1 no; 1 load c0: 1; 1 cas c0 1 2: 1 ok",
			[][]answer{{at(1)}, {at(2)}}, []answer{all(1, 2), at(3), all(1, 2, 0)}},
		{"the later number is put on first", 9, one, [][]call{{adds(1)}, {adds(2)}}, aid.Goes([2]int{0, 2}, [2]int{1, 3}),
			"0 load c0: 1; 0 add c1 1: 1; 1 load c0: 1; 1 add c1 1: 2; 1 cas c0 1 3: 1 ok; 0 cas c0 1 2: 3 no; 0 load c0: 3; 0 cas c0 3 2: 3 ok",
			[][]answer{{at(2)}, {at(3)}}, []answer{all(7, 2, 1), at(4), all(7, 2, 1, 0)}},
		{"who came first has the later number, and is put on last", 9, nil, [][]call{{adds(1)}, {adds(2)}}, aid.Goes([2]int{0, 1}, [2]int{1, 3}),
			"0 load c0: 0; 1 load c0: 0; 1 add c1 1: 0; 1 cas c0 0 1: 0 ok; 0 add c1 1: 1; 0 cas c0 0 2: 1 no; 0 load c0: 1; 0 cas c0 1 2: 1 ok",
			[][]answer{{at(2)}, {at(1)}}, []answer{all(2, 1), at(3), all(2, 1, 0)}},
		{"forestalled twice", 9, nil, [][]call{{adds(1)}, {adds(2), adds(3)}}, aid.Goes([2]int{0, 2}, [2]int{1, 3}, [2]int{0, 2}, [2]int{1, 3}),
			"0 load c0: 0; 0 add c1 1: 0; 1 load c0: 0; 1 add c1 1: 1; 1 cas c0 0 2: 0 ok; 0 cas c0 0 1: 2 no; 0 load c0: 2; " +
				"1 load c0: 2; 1 add c1 1: 2; 1 cas c0 2 3: 2 ok; 0 cas c0 2 1: 3 no; 0 load c0: 3; 0 cas c0 3 1: 3 ok",
			[][]answer{{at(1)}, {at(2), at(3)}}, []answer{all(2, 3, 1), at(4), all(2, 3, 1, 0)}},
		{"closed behind an Add's first look", 9, one, [][]call{{adds(1)}, {closes}}, aid.Goes([2]int{0, 1}, [2]int{1, 1}),
			"0 load c0: 1; 1 swap c0 -1: 1; 0 add c1 1: 1; 0 cas c0 1 2: -1 no; 0 load c0: -1",
			[][]answer{{gone}, {all(7)}}, over},
		{"closed when an Add has its number", 9, nil, [][]call{{adds(1)}, {closes}}, aid.Goes([2]int{0, 2}, [2]int{1, 1}),
			"0 load c0: 0; 0 add c1 1: 0; 1 swap c0 -1: 0; 0 cas c0 0 1: -1 no; 0 load c0: -1",
			[][]answer{{gone}, {all()}}, over},
		{"closed when an Add was forestalled", 9, nil, [][]call{{adds(1)}, {adds(2), closes}}, aid.Goes([2]int{0, 2}, [2]int{1, 3}, [2]int{0, 1}, [2]int{1, 1}),
			"0 load c0: 0; 0 add c1 1: 0; 1 load c0: 0; 1 add c1 1: 1; 1 cas c0 0 2: 0 ok; 0 cas c0 0 1: 2 no; 1 swap c0 -1: 2; 0 load c0: -1",
			[][]answer{{gone}, {at(2), all(2)}}, over},
		{"closed when an Add has looked again", 9, nil, [][]call{{adds(1)}, {adds(2), closes}}, aid.Goes([2]int{0, 2}, [2]int{1, 3}, [2]int{0, 2}, [2]int{1, 1}),
			"0 load c0: 0; 0 add c1 1: 0; 1 load c0: 0; 1 add c1 1: 1; 1 cas c0 0 2: 0 ok; 0 cas c0 0 1: 2 no; 0 load c0: 2; 1 swap c0 -1: 2; 0 cas c0 2 1: -1 no; 0 load c0: -1",
			[][]answer{{gone}, {at(2), all(2)}}, over},
		{"closed behind an Add", 9, nil, [][]call{{adds(1)}, {closes}}, aid.Goes([2]int{0, 3}),
			"0 load c0: 0; 0 add c1 1: 0; 0 cas c0 0 1: 0 ok; 1 swap c0 -1: 1",
			[][]answer{{at(1)}, {all(1)}}, over},
		{"full, though it is closed in the Add's midst", 1, one, [][]call{{adds(1)}, {closes}}, aid.Goes([2]int{0, 1}, [2]int{1, 1}),
			"0 load c0: 1; 1 swap c0 -1: 1; 0 add c1 1: 1",
			[][]answer{{full}, {all(7)}}, over},
		{"full, though the last place is not on", 1, nil, [][]call{{adds(1)}, {adds(2), looks, looks}}, aid.Goes([2]int{0, 2}, [2]int{1, 3}, [2]int{0, 1}),
			"0 load c0: 0; 0 add c1 1: 0; 1 load c0: 0; 1 add c1 1: 1; 1 load c0: 0; 0 cas c0 0 1: 0 ok; 1 load c0: 1",
			[][]answer{{at(1)}, {full, all(), all(1)}}, []answer{all(1), full, all(1)}},
		{"the one who comes later has the last place", 1, nil, [][]call{{adds(1)}, {adds(2)}}, aid.Goes([2]int{0, 1}, [2]int{1, 3}),
			"0 load c0: 0; 1 load c0: 0; 1 add c1 1: 0; 1 cas c0 0 1: 0 ok; 0 add c1 1: 1",
			[][]answer{{full}, {at(1)}}, []answer{all(2), full, all(2)}},
		{"two who close", 9, one, [][]call{{closes, looks}, {closes, looks}}, []int{1, 0},
			"1 swap c0 -1: 1; 0 swap c0 -1: -1; 1 load c0: -1; 0 load c0: -1",
			[][]answer{{gone, ended}, {all(7), ended}}, over},
		{"who looks ahead of an Add's last access, and behind it", 9, one, [][]call{{adds(1)}, {looks, looks, looks}}, []int{0, 1, 0, 1, 0, 0},
			"0 load c0: 1; 1 load c0: 1; 0 add c1 1: 1; 1 load c0: 1; 0 cas c0 1 2: 1 ok; 1 load c0: 2",
			[][]answer{{at(2)}, {all(7), all(7), all(7, 1)}}, []answer{all(7, 1), at(3), all(7, 1, 0)}},
		{"who looks ahead of a Close, and behind it", 9, one, [][]call{{closes}, {looks, looks}}, []int{1, 0, 0},
			"1 load c0: 1; 0 swap c0 -1: 1; 1 load c0: -1",
			[][]answer{{all(7)}, {all(7), ended}}, over},
		{"an Add that goes on when another one has lost its number", 3, one, [][]call{{adds(1)}, {adds(2), looks}, {adds(3), looks}}, []int{0, 0, 1, 1, 2, 1, 0, 0, 0},
			"0 load c0: 1; 0 add c1 1: 1; 1 load c0: 1; 1 add c1 1: 2; 2 load c0: 1; 1 cas c0 1 3: 1 ok; 0 cas c0 1 2: 3 no; 0 load c0: 3; 0 cas c0 3 2: 3 ok; 1 load c0: 2; 2 add c1 1: 3; 2 load c0: 2",
			[][]answer{{at(2)}, {at(3), all(7, 2, 1)}, {full, all(7, 2, 1)}}, []answer{all(7, 2, 1), full, all(7, 2, 1)}},
	} {
		m.look(t)
	}
}

// TestLate: a thread that stands at whatever access of its calls, while another one makes all kinds of calls.
func TestLate(t *testing.T) {
	others := [][]call{
		{adds(5)}, {adds(5), adds(6), adds(8)}, {closes}, {adds(5), closes}, {closes, adds(5)}, {looks, adds(5), looks}, {adds(5), looks, closes, looks, adds(6)}, {closes, closes},
	}
	for most := range 6 {
		for has := range most + 1 {
			for _, c := range []call{adds(9), closes, looks} {
				for _, other := range others {
					for stands := range 8 {
						for goes := range 4 {
							w := newWorld(most, fills(has), [][]call{{c, adds(4), looks}, other})
							r := w.run(t, aid.Goes([2]int{0, stands}, [2]int{1, 3}, [2]int{0, goes}, [2]int{1, 3 * len(other)}), api.MaxTurns)
							if t.Failed() || r.End != api.Over {
								t.Fatalf("of %d places, with %d values: %v stands at %d, then at %d, beside %v: %s", most, has, c, stands, goes, other, aid.Texts(r.Log))
							}
						}
					}
				}
			}
		}
	}
}

// TestAnew: an Add that is forestalled goes back, however often; till it is put on, or the list is closed.
func TestAnew(t *testing.T) {
	const times = 200
	for what, row := range map[string]struct {
		last call // of the other thread
		want answer
	}{
		"put on":         {adds(5), at(1)},
		"closed at last": {closes, gone},
	} {
		other, picks := append(fills(times-1), row.last), []int{0, 0}
		for range times {
			picks = append(picks, aid.Goes([2]int{1, 3}, [2]int{0, 2})...)
		}
		if row.last == closes {
			picks = append(picks[:len(picks)-5], 1)
		}
		w := newWorld(times+1, nil, [][]call{{adds(9)}, other})
		r := w.run(t, picks, api.MaxTurns)
		if got := w.threads.Got[0]; r.End != api.Over || !slices.Equal(got, []answer{row.want}) || len(w.did[0].vain) != times {
			t.Errorf("P9.2: %s: %d times in vain: %v", what, len(w.did[0].vain), got)
		}
	}
}

// TestMany: so many threads that go by turns, at their accesses all at one time: each is put on, or refused for want of places, or told that the list is closed.
func TestMany(t *testing.T) {
	const threads, each = 32, 4
	for _, most := range []int{0, 1, threads, threads * each, api.MaxNodes} {
		for _, turns := range []int{0, 50, 500, api.MaxTurns} { // when it is closed
			var calls [][]call
			for h := range threads {
				calls = append(calls, nil)
				for i := range each {
					calls[h] = append(calls[h], adds(int64(each*h+i)), looks)
				}
			}
			calls = append(calls, []call{closes})
			picks := make([]int, turns)
			for i := range picks {
				picks[i] = i * 7 % threads // all of these are ready as long as none has ended
			}
			w := newWorld(most, nil, calls)
			if r := w.run(t, picks, api.MaxTurns); t.Failed() || r.End != api.Over || w.threads.Got[threads][0].e != api.OK {
				t.Fatalf("what follows: of %d places, closed behind %d turns: end %d", most, turns, r.End)
			}
		}
	}
}

// TestStopped: a thread that is stopped at whatever access of a call: the gate's own panic comes out of it, then and at each later call, and nothing is changed but by what was done: the number that it was given is nobody else's for good.
func TestStopped(t *testing.T) {
	later := []call{looks, adds(4), adds(5), adds(6), looks, closes, looks, adds(6), closes}
	told := func(had, has answer, k ...answer) []answer {
		return slices.Concat([]answer{had}, k, []answer{has, has, ended, gone, gone})
	}
	none := told(all(7), all(7, 4, 5), at(2), at(3), full)
	closed := slices.Concat([]answer{ended}, slices.Repeat([]answer{gone}, 3), []answer{ended, gone, ended, gone, gone})
	for _, row := range []struct {
		most   int
		first  []call
		c      call
		stands []string   // at which access it is stopped, when it had so many turns
		later  [][]answer // what free calls are answered then
	}{
		{3, []call{adds(7)}, adds(9), []string{"0 load c-1: 1", "0 add c-1 1: 1", "0 cas c0 1 2: 1 no"}, [][]answer{none, none, told(all(7), all(7, 4), at(3), full, full)}},
		{2, []call{adds(7)}, adds(9), []string{"0 load c-1: 1", "0 add c-1 1: 1", "0 cas c0 1 2: 1 no"}, [][]answer{told(all(7), all(7, 4), at(2), full, full), told(all(7), all(7, 4), at(2), full, full), told(all(7), all(7), full, full, full)}},
		{1, nil, adds(9), []string{"0 load c-1: 0", "0 add c-1 1: 0", "0 cas c0 0 1: 0 no"}, [][]answer{told(all(), all(4), at(1), full, full), told(all(), all(4), at(1), full, full), told(all(), all(), full, full, full)}},
		{1, []call{adds(7)}, adds(9), []string{"0 load c-1: 1", "0 add c-1 1: 1"}, [][]answer{told(all(7), all(7), full, full, full), told(all(7), all(7), full, full, full)}},
		{3, []call{adds(7)}, closes, []string{"0 swap c-1 -1: 1"}, [][]answer{none}},
		{3, []call{adds(7)}, looks, []string{"0 load c-1: 1"}, [][]answer{none}},
		{3, []call{adds(7), closes}, adds(9), []string{"0 load c-1: -1"}, [][]answer{closed}},
		{3, []call{adds(7), closes}, closes, []string{"0 swap c-1 -1: -1"}, [][]answer{closed}},
		{3, []call{adds(7), closes}, looks, []string{"0 load c-1: -1"}, [][]answer{closed}},
	} {
		for turns, stands := range row.stands {
			l := newList(row.most)
			makes(l, nil, row.first...)
			at, faults := aid.Stops(turns, func(t *gate.Thread, c call) { do(l, t, c) }, row.c, adds(3), closes, looks, adds(3))
			if at != stands || len(faults) != 0 {
				t.Errorf("R1: %+v, %d turns: it stands at %s: %v", row.c, turns, at, faults)
			}
			if got := makes(l, nil, later...); !slices.Equal(got, row.later[turns]) {
				t.Errorf("R1, what follows: of %d places: %+v, %d turns: then %v, not %v", row.most, row.c, turns, got, row.later[turns])
			}
		}
	}
}

// TestStoppedAnew: a thread that is stopped in an Add that was forestalled, among others that are stopped, too.
func TestStoppedAnew(t *testing.T) {
	for i, row := range []struct {
		picks []int
		left  string
		then  []answer // what free calls are answered
	}{
		{[]int{0, 0, 1, 1, 1, 0}, "0 load c0: 2; 1 load c0: 2", []answer{all(2), at(3), all(2, 0)}},
		{[]int{0, 0, 1, 1, 1, 0, 0}, "0 cas c0 2 1: 2 no; 1 load c0: 2", []answer{all(2), at(3), all(2, 0)}},
		{[]int{0, 0, 1, 1, 1, 0, 0, 1, 1}, "0 cas c0 2 1: 2 no; 1 cas c0 2 3: 2 no", []answer{all(2), at(4), all(2, 0)}},
		{[]int{0, 0, 1, 1, 1, 0, 0, 1, 1, 1}, "0 cas c0 2 1: 3 no; 1 swap c0 -1: 3", []answer{all(2, 3), at(4), all(2, 3, 0)}},
		{[]int{0, 0, 1, 1, 1, 0, 0, 1, 1, 1, 1}, "0 cas c0 2 1: -1 no", []answer{ended, gone, gone}},
		{[]int{0, 0, 1, 1, 1, 0, 0, 1, 1, 1, 1, 0}, "0 load c0: -1", []answer{ended, gone, gone}},
	} {
		l := newList(9)
		fell := 0
		body := func(calls ...call) func(t *gate.Thread) {
			return func(t *gate.Thread) {
				if x := aid.Caught(func() { makes(l, t, calls...) }); x != nil {
					if !gate.Is(x) {
						fell++
					}
					panic(x)
				}
			}
		}
		r := gate.Run(row.picks, len(row.picks), body(adds(1)), body(adds(2), adds(3), closes))
		if aid.Texts(r.Left) != row.left || r.End != api.Cut || fell != 0 || len(r.Fell) != 0 {
			t.Errorf("R1: the row %d: %s: %d, %v", i, aid.Texts(r.Left), fell, r.Fell)
		}
		if got := makes(l, nil, looks, adds(0), closes); !slices.Equal(got, row.then) {
			t.Errorf("R1, what follows: the row %d: then %v, not %v", i, got, row.then)
		}
	}
}

// TestFallen: a body that falls beside its calls leaves the list as it is.
func TestFallen(t *testing.T) {
	l := newList(3)
	r := gate.Run([]int{0, 1}, 99, func(t *gate.Thread) {
		defer l.Add(t, 8)
		l.Add(t, 7)
		panic("x")
	}, func(t *gate.Thread) { l.Add(t, 6) })
	if got := makes(l, nil, looks); !slices.Equal(r.Fell, []int{0}) || r.End != api.Over || got[0] != all(7, 6, 8) {
		t.Errorf("what follows: %v: %+v", got, r)
	}
}
