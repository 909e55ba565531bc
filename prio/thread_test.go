package prio_test

import (
	"slices"
	"testing"

	"treadle/aid"
	"treadle/api"
	"treadle/gate"
)

// TestAmongOthers: threads that meet in the midst of their calls.
func TestAmongOthers(t *testing.T) {
	type goes = [2]int
	for _, row := range []struct {
		what  string
		of    size
		first []call // free, ahead of the run
		calls [][]call
		picks []int
		log   string
		want  [][]answer
	}{
		{"a Put in the midst holds up its own level alone", size{2, 2}, nil, [][]call{{puts(1, 7)}, {puts(1, 8), puts(0, 9), takes, takes}}, aid.Goes(goes{0, 6}, goes{1, 99}), "0 load c0: 0; 0 load c1: 0; 0 cas c0 0 1: 0 ok; 0 add c2 1: 0; 0 store c3 1: 0; 0 store c4 7: 0; 1 load c0: 1; 1 load c5: 1; 1 cas c0 1 2: 1 ok; 1 add c2 1: 1; 1 store c6 2: 0; 1 store c7 8: 0; 1 store c5 2: 1; 1 load c8: 0; 1 load c9: 0; 1 cas c8 0 1: 0 ok; 1 add c2 1: 2; 1 store c10 3: 0; 1 store c11 9: 0; 1 store c9 1: 0; 1 load c12: 0; 1 load c1: 0; 1 load c13: 0; 1 load c9: 1; 1 load c10: 3; 1 cas c13 0 1: 0 ok; 1 load c11: 9; 1 store c9 2: 1; 1 load c12: 0; 1 load c1: 0; 1 load c13: 1; 1 load c14: 1; 0 store c1 1: 0", [][]answer{{okay}, {okay, okay, took(0, 9), none}}},
		{"the tickets of a level in another order than its positions", size{2, 2}, nil, [][]call{{puts(0, 7)}, {puts(0, 8), puts(1, 9), takes, takes, takes}}, aid.Goes(goes{0, 3}, goes{1, 14}, goes{0, 4}), "0 load c0: 0; 0 load c1: 0; 0 cas c0 0 1: 0 ok; 1 load c0: 1; 1 load c2: 1; 1 cas c0 1 2: 1 ok; 1 add c3 1: 0; 1 store c4 1: 0; 1 store c5 8: 0; 1 store c2 2: 1; 1 load c6: 0; 1 load c7: 0; 1 cas c6 0 1: 0 ok; 1 add c3 1: 1; 1 store c8 2: 0; 1 store c9 9: 0; 1 store c7 1: 0; 0 add c3 1: 2; 0 store c10 3: 0; 0 store c11 7: 0; 0 store c1 1: 0; 1 load c12: 0; 1 load c7: 1; 1 load c8: 2; 1 load c13: 0; 1 load c1: 1; 1 load c10: 3; 1 cas c12 0 1: 0 ok; 1 load c9: 9; 1 store c7 2: 1; 1 load c12: 1; 1 load c14: 1; 1 load c13: 0; 1 load c1: 1; 1 load c10: 3; 1 cas c13 0 1: 0 ok; 1 load c11: 7; 1 store c1 2: 1; 1 load c12: 1; 1 load c14: 1; 1 load c13: 1; 1 load c2: 2; 1 load c4: 1; 1 cas c13 1 2: 1 ok; 1 load c5: 8; 1 store c2 3: 2", [][]answer{{okay}, {okay, okay, took(1, 9), took(0, 7), took(0, 8)}}},
		{"a Put is forestalled", size{1, 2}, nil, [][]call{{puts(0, 7)}, {puts(0, 8)}}, aid.Goes(goes{0, 2}, goes{1, 3}, goes{0, 3}), "0 load c0: 0; 0 load c1: 0; 1 load c0: 0; 1 load c1: 0; 1 cas c0 0 1: 0 ok; 0 cas c0 0 1: 1 no; 0 load c0: 1; 0 load c2: 1; 1 add c3 1: 0; 0 cas c0 1 2: 1 ok; 1 store c4 1: 0; 0 add c3 1: 1; 1 store c5 8: 0; 0 store c6 2: 0; 1 store c1 1: 0; 0 store c7 7: 0; 0 store c2 2: 1", [][]answer{{okay}, {okay}}},
		{"a Put is forestalled, and then there is no room", size{1, 2}, []call{puts(0, 5)}, [][]call{{puts(0, 7)}, {puts(0, 8)}}, aid.Goes(goes{0, 2}, goes{1, 3}, goes{0, 3}), "0 load c0: 1; 0 load c1: 1; 1 load c0: 1; 1 load c1: 1; 1 cas c0 1 2: 1 ok; 0 cas c0 1 2: 2 no; 0 load c0: 2; 0 load c2: 1; 1 add c3 1: 1; 1 store c4 2: 0; 1 store c5 8: 0; 1 store c1 2: 1", [][]answer{{full}, {okay}}},
		{"a Put on another level forestalls nobody", size{2, 2}, nil, [][]call{{puts(0, 7)}, {puts(1, 8)}}, aid.Goes(goes{0, 2}, goes{1, 4}, goes{0, 9}), "0 load c0: 0; 0 load c1: 0; 1 load c2: 0; 1 load c3: 0; 1 cas c2 0 1: 0 ok; 1 add c4 1: 0; 0 cas c0 0 1: 0 ok; 0 add c4 1: 1; 0 store c5 2: 0; 0 store c6 7: 0; 0 store c1 1: 0; 1 store c7 1: 0; 1 store c8 8: 0; 1 store c3 1: 0", [][]answer{{okay}, {okay}}},
		{"a Put comes late: its position is laid", size{1, 2}, nil, [][]call{{puts(0, 7)}, {puts(0, 8)}}, aid.Goes(goes{0, 1}, goes{1, 7}, goes{0, 99}), "0 load c0: 0; 1 load c0: 0; 1 load c1: 0; 1 cas c0 0 1: 0 ok; 1 add c2 1: 0; 1 store c3 1: 0; 1 store c4 8: 0; 1 store c1 1: 0; 0 load c1: 1; 0 load c0: 1; 0 load c5: 1; 0 cas c0 1 2: 1 ok; 0 add c2 1: 1; 0 store c6 2: 0; 0 store c7 7: 0; 0 store c5 2: 1", [][]answer{{okay}, {okay}}},
		{"a Put comes late: its position is taken already", size{1, 2}, nil, [][]call{{puts(0, 7)}, {puts(0, 8), takes}}, aid.Goes(goes{0, 1}, goes{1, 13}, goes{0, 99}), "0 load c0: 0; 1 load c0: 0; 1 load c1: 0; 1 cas c0 0 1: 0 ok; 1 add c2 1: 0; 1 store c3 1: 0; 1 store c4 8: 0; 1 store c1 1: 0; 1 load c5: 0; 1 load c1: 1; 1 load c3: 1; 1 cas c5 0 1: 0 ok; 1 load c4: 8; 1 store c1 2: 1; 0 load c1: 2; 0 load c0: 1; 0 load c6: 1; 0 cas c0 1 2: 1 ok; 0 add c2 1: 1; 0 store c7 2: 0; 0 store c8 7: 0; 0 store c6 2: 1", [][]answer{{okay}, {okay, took(0, 8)}}},
		{"a Take is forestalled, and looks at each level anew", size{2, 2}, []call{puts(1, 5), puts(0, 6)}, [][]call{{takes}, {takes}}, aid.Goes(goes{0, 6}, goes{1, 7}, goes{0, 99}), "0 load c0: 0; 0 load c1: 1; 0 load c2: 1; 0 load c3: 0; 0 load c4: 1; 0 load c5: 2; 1 load c0: 0; 1 load c1: 1; 1 load c2: 1; 1 load c3: 0; 1 load c4: 1; 1 load c5: 2; 1 cas c0 0 1: 0 ok; 0 cas c0 0 1: 1 no; 0 load c0: 1; 0 load c6: 1; 0 load c3: 0; 0 load c4: 1; 0 load c5: 2; 0 cas c3 0 1: 0 ok; 0 load c7: 6; 0 store c4 2: 1; 1 load c8: 5; 1 store c1 2: 1", [][]answer{{took(0, 6)}, {took(1, 5)}}},
		{"a Take is forestalled, and then nothing is left", size{2, 2}, []call{puts(0, 5)}, [][]call{{takes}, {takes}}, aid.Goes(goes{0, 5}, goes{1, 6}, goes{0, 99}), "0 load c0: 0; 0 load c1: 0; 0 load c2: 0; 0 load c3: 1; 0 load c4: 1; 1 load c0: 0; 1 load c1: 0; 1 load c2: 0; 1 load c3: 1; 1 load c4: 1; 1 cas c2 0 1: 0 ok; 0 cas c2 0 1: 1 no; 0 load c0: 0; 0 load c1: 0; 0 load c2: 1; 0 load c5: 1; 1 load c6: 5; 1 store c3 2: 1", [][]answer{{none}, {took(0, 5)}}},
		{"a Take is forestalled, and then something on a higher level is worth more", size{2, 2}, []call{puts(0, 5), puts(0, 6)}, [][]call{{takes}, {takes, puts(1, 8)}}, aid.Goes(goes{0, 5}, goes{1, 99}), "0 load c0: 0; 0 load c1: 0; 0 load c2: 0; 0 load c3: 1; 0 load c4: 1; 1 load c0: 0; 1 load c1: 0; 1 load c2: 0; 1 load c3: 1; 1 load c4: 1; 1 cas c2 0 1: 0 ok; 1 load c5: 5; 1 store c3 2: 1; 1 load c6: 0; 1 load c1: 0; 1 cas c6 0 1: 0 ok; 1 add c7 1: 2; 1 store c8 3: 0; 1 store c9 8: 0; 1 store c1 1: 0; 0 cas c2 0 1: 1 no; 0 load c0: 0; 0 load c1: 1; 0 load c8: 3; 0 load c2: 1; 0 load c10: 2; 0 load c11: 2; 0 cas c0 0 1: 0 ok; 0 load c9: 8; 0 store c1 2: 1", [][]answer{{took(1, 8)}, {took(0, 5), okay}}},
		{"a Take of another level forestalls nobody", size{2, 2}, []call{puts(0, 7)}, [][]call{{takes}, {puts(1, 8), takes}}, aid.Goes(goes{0, 5}, goes{1, 99}), "0 load c0: 0; 0 load c1: 0; 0 load c2: 0; 0 load c3: 1; 0 load c4: 1; 1 load c5: 0; 1 load c1: 0; 1 cas c5 0 1: 0 ok; 1 add c6 1: 1; 1 store c7 2: 0; 1 store c8 8: 0; 1 store c1 1: 0; 1 load c0: 0; 1 load c1: 1; 1 load c7: 2; 1 load c2: 0; 1 load c3: 1; 1 load c4: 1; 1 cas c0 0 1: 0 ok; 1 load c8: 8; 1 store c1 2: 1; 0 cas c2 0 1: 0 ok; 0 load c9: 7; 0 store c3 2: 1", [][]answer{{took(0, 7)}, {okay, took(1, 8)}}},
		{"a Take comes late: it does not ask for the next one, and finds nothing", size{1, 2}, []call{puts(0, 5), puts(0, 6)}, [][]call{{takes}, {takes}}, aid.Goes(goes{0, 1}, goes{1, 6}, goes{0, 99}), "0 load c0: 0; 1 load c0: 0; 1 load c1: 1; 1 load c2: 1; 1 cas c0 0 1: 0 ok; 1 load c3: 5; 1 store c1 2: 1; 0 load c1: 2", [][]answer{{none}, {took(0, 5)}}},
		{"a Take comes late on the highest level: it takes of another", size{2, 2}, []call{puts(1, 5), puts(1, 6), puts(0, 7)}, [][]call{{takes}, {takes}}, aid.Goes(goes{0, 1}, goes{1, 9}, goes{0, 99}), "0 load c0: 0; 1 load c0: 0; 1 load c1: 1; 1 load c2: 1; 1 load c3: 0; 1 load c4: 1; 1 load c5: 3; 1 cas c0 0 1: 0 ok; 1 load c6: 5; 1 store c1 2: 1; 0 load c1: 2; 0 load c3: 0; 0 load c4: 1; 0 load c5: 3; 0 cas c3 0 1: 0 ok; 0 load c7: 7; 0 store c4 2: 1", [][]answer{{took(0, 7)}, {took(1, 5)}}},
		{"a Take comes late: another value is laid there", size{1, 2}, []call{puts(0, 5), puts(0, 6)}, [][]call{{takes}, {takes, puts(0, 8)}}, aid.Goes(goes{0, 1}, goes{1, 99}), "0 load c0: 0; 1 load c0: 0; 1 load c1: 1; 1 load c2: 1; 1 cas c0 0 1: 0 ok; 1 load c3: 5; 1 store c1 2: 1; 1 load c4: 2; 1 load c1: 2; 1 cas c4 2 3: 2 ok; 1 add c5 1: 2; 1 store c2 3: 1; 1 store c3 8: 5; 1 store c1 3: 2; 0 load c1: 3", [][]answer{{none}, {took(0, 5), okay}}},
		{"a Take finds the ticket of what was laid meanwhile: it is forestalled", size{1, 2}, []call{puts(0, 5), puts(0, 6)}, [][]call{{takes}, {takes, puts(0, 8)}}, aid.Goes(goes{0, 2}, goes{1, 99}), "0 load c0: 0; 0 load c1: 1; 1 load c0: 0; 1 load c1: 1; 1 load c2: 1; 1 cas c0 0 1: 0 ok; 1 load c3: 5; 1 store c1 2: 1; 1 load c4: 2; 1 load c1: 2; 1 cas c4 2 3: 2 ok; 1 add c5 1: 2; 1 store c2 3: 1; 1 store c3 8: 5; 1 store c1 3: 2; 0 load c2: 3; 0 cas c0 0 1: 1 no; 0 load c0: 1; 0 load c6: 2; 0 load c7: 2; 0 cas c0 1 2: 1 ok; 0 load c8: 6; 0 store c6 3: 2", [][]answer{{took(0, 6)}, {took(0, 5), okay}}},
		{"a Take has passed by the highest level as something comes there: it takes what came even later, and lower", size{2, 2}, nil, [][]call{{takes, takes}, {puts(1, 7), puts(0, 8)}}, aid.Goes(goes{0, 2}, goes{1, 99}), "0 load c0: 0; 0 load c1: 0; 1 load c2: 0; 1 load c1: 0; 1 cas c2 0 1: 0 ok; 1 add c3 1: 0; 1 store c4 1: 0; 1 store c5 7: 0; 1 store c1 1: 0; 1 load c6: 0; 1 load c7: 0; 1 cas c6 0 1: 0 ok; 1 add c3 1: 1; 1 store c8 2: 0; 1 store c9 8: 0; 1 store c7 1: 0; 0 load c10: 0; 0 load c7: 1; 0 load c8: 2; 0 cas c10 0 1: 0 ok; 0 load c9: 8; 0 store c7 2: 1; 0 load c0: 0; 0 load c1: 1; 0 load c4: 1; 0 load c10: 1; 0 load c11: 1; 0 cas c0 0 1: 0 ok; 0 load c5: 7; 0 store c1 2: 1", [][]answer{{took(0, 8), took(1, 7)}, {okay, okay}}},
		{"a Take in the midst holds up the Puts on its level alone", size{2, 2}, []call{puts(1, 5), puts(1, 6)}, [][]call{{takes}, {puts(1, 7), puts(0, 8), takes, puts(1, 7)}}, aid.Goes(goes{0, 7}, goes{1, 99}), "0 load c0: 0; 0 load c1: 1; 0 load c2: 1; 0 load c3: 0; 0 load c4: 0; 0 cas c0 0 1: 0 ok; 0 load c5: 5; 1 load c6: 2; 1 load c1: 1; 1 load c7: 0; 1 load c4: 0; 1 cas c7 0 1: 0 ok; 1 add c8 1: 2; 1 store c9 3: 0; 1 store c10 8: 0; 1 store c4 1: 0; 1 load c0: 1; 1 load c11: 2; 1 load c12: 2; 1 load c3: 0; 1 load c4: 1; 1 load c9: 3; 1 cas c0 1 2: 1 ok; 1 load c13: 6; 1 store c11 3: 2; 1 load c6: 2; 1 load c1: 1; 0 store c1 2: 1", [][]answer{{took(1, 5)}, {full, okay, took(1, 6), full}}},
		{"a Put that has laid its value holds up Takes, till it tells", size{1, 2}, nil, [][]call{{puts(0, 7)}, {takes, takes}}, aid.Goes(goes{0, 6}, goes{1, 2}, goes{0, 1}), "0 load c0: 0; 0 load c1: 0; 0 cas c0 0 1: 0 ok; 0 add c2 1: 0; 0 store c3 1: 0; 0 store c4 7: 0; 1 load c5: 0; 1 load c1: 0; 0 store c1 1: 0; 1 load c5: 0; 1 load c1: 1; 1 load c3: 1; 1 cas c5 0 1: 0 ok; 1 load c4: 7; 1 store c1 2: 1", [][]answer{{okay}, {none, took(0, 7)}}},
		{"a Put ahead of its claim holds up nobody", size{1, 2}, nil, [][]call{{puts(0, 7)}, {puts(0, 8), takes}}, aid.Goes(goes{0, 2}, goes{1, 13}, goes{0, 99}), "0 load c0: 0; 0 load c1: 0; 1 load c0: 0; 1 load c1: 0; 1 cas c0 0 1: 0 ok; 1 add c2 1: 0; 1 store c3 1: 0; 1 store c4 8: 0; 1 store c1 1: 0; 1 load c5: 0; 1 load c1: 1; 1 load c3: 1; 1 cas c5 0 1: 0 ok; 1 load c4: 8; 1 store c1 2: 1; 0 cas c0 0 1: 1 no; 0 load c0: 1; 0 load c6: 1; 0 cas c0 1 2: 1 ok; 0 add c2 1: 1; 0 store c7 2: 0; 0 store c8 7: 0; 0 store c6 2: 1", [][]answer{{okay}, {okay, took(0, 8)}}},
	} {
		p := row.of.filled(row.first...)
		threads := aid.Scripts[call, answer]{Calls: row.calls, Do: func(t *gate.Thread, c call) answer { return do(p, t, c) }}
		r := gate.Run(row.picks, 99, threads.Bodies()...)
		if aid.Texts(r.Log) != row.log || r.End != api.Over || !slices.EqualFunc(threads.Got, row.want, slices.Equal) {
			t.Errorf("P18.2, P18.3: %s:\n got %s, end %d, %v\nwant %s, %v", row.what, aid.Texts(r.Log), r.End, threads.Got, row.log, row.want)
		}
	}
}

// TestAnew: whoever is forestalled, or puts late, goes round again, however often; and has what is his then.
func TestAnew(t *testing.T) {
	const times = 100
	type goes = [2]int
	fills := func(n int) (l []call) {
		for i := range n {
			l = append(l, puts(0, int64(i)))
		}
		return l
	}
	for _, row := range []struct {
		what  string
		first []call
		c     call
		other call
		picks []int // again and again
		turns int
		want  answer
	}{
		{"a Put, forestalled", nil, puts(0, -9), puts(0, 5), aid.Goes(goes{0, 2}, goes{1, 7}, goes{0, 1}), 10*times + 7, okay},
		{"a Put, late", nil, puts(0, -9), puts(0, 5), aid.Goes(goes{0, 1}, goes{1, 7}, goes{0, 1}), 9*times + 7, okay},
		{"a Put, forestalled till there is no room", fills(256 - times), puts(0, -9), puts(0, 5), aid.Goes(goes{0, 2}, goes{1, 7}, goes{0, 1}), 10*times + 2, full},
		{"a Take, forestalled", fills(2 * times), takes, takes, aid.Goes(goes{0, 5}, goes{1, 8}, goes{0, 1}), 14*times + 8, took(0, times)},
		{"a Take, forestalled till nothing is left", fills(times), takes, takes, aid.Goes(goes{0, 5}, goes{1, 8}, goes{0, 1}), 14*times + 4, none},
	} {
		w := size{2, 256}.behind(row.first...).world([][]call{{row.c}, slices.Repeat([]call{row.other}, times)})
		r := w.run(t, slices.Repeat(row.picks, times), api.MaxTurns)
		if got := w.threads.Got[0]; r.End != api.Over || r.Turns != row.turns || !slices.Equal(got, []answer{row.want}) {
			t.Errorf("P18.2, P18.3: %s: %d turns: %v", row.what, r.Turns, got)
		}
	}
}

// TestMany: so many threads that go by turns, at their accesses all at one time.
func TestMany(t *testing.T) {
	const threads = 48
	for seed := range 12 {
		m := size{1 + seed%8, 2 << (seed % 5)}
		calls := make([][]call, threads)
		for h := range calls {
			v, n := int64(100*h), (h+seed)%m.levels
			calls[h] = [][]call{{puts(n, v), takes}, {takes, puts(n, v)}, {puts(n, v), puts(0, v+1), puts(m.levels-1, v+2)}, {takes, takes}}[(h/2+seed)%4]
		}
		w := m.behind(m.fills(true)[:seed]...).world(calls)
		if r := w.run(t, aid.Spread((seed%2)<<11, 7*(seed+1)), api.MaxTurns); t.Failed() || r.End != api.Over {
			t.Fatalf("R1: %d: of %v: end %d", seed, m, r.End)
		}
	}
}

// TestStopped: a thread that is stopped at whatever access of a call: the gate's own panic comes out of it, then and at each later call, and nothing is changed but by what was done: who has claimed holds up his level for good, and no other.
func TestStopped(t *testing.T) {
	later := []call{takes, takes, puts(1, 4), takes, puts(1, 5), puts(1, 6), takes, takes}
	asBefore := func(first, second answer) []answer {
		return []answer{first, second, okay, took(1, 4), okay, okay, took(1, 5), took(1, 6)}
	}
	held := []answer{took(0, 7), none, okay, none, full, full, none, none}
	heldTwo := []answer{took(0, 8), none, okay, took(1, 4), full, full, none, none}
	for _, row := range []struct {
		first  []call
		c      call
		stands []string // at which access it is stopped, when it had so many turns
		claims int      // it has claimed, when it had more than so many
		free   []answer // what free calls are answered where it has not
		held   []answer // where it has
	}{
		{[]call{puts(0, 7)}, puts(1, 9), []string{"0 load c-1: 0", "0 load c-1: 0", "0 cas c0 0 1: 0 no", "0 add c-1 1: 1", "0 store c-1 2: 0", "0 store c-1 9: 0", "0 store c1 1: 0"}, 2, asBefore(took(0, 7), none), held},
		{[]call{puts(1, 7), puts(1, 8)}, puts(1, 9), []string{"0 load c-1: 2", "0 load c-1: 1"}, 9, asBefore(took(1, 7), took(1, 8)), nil},
		{[]call{puts(1, 7), puts(0, 8)}, takes, []string{"0 load c-1: 0", "0 load c-1: 1", "0 load c-1: 1", "0 load c-1: 0", "0 load c-1: 1", "0 load c-1: 2", "0 cas c0 0 1: 0 no", "0 load c-1: 7", "0 store c1 2: 1"}, 6, asBefore(took(1, 7), took(0, 8)), heldTwo},
		{nil, takes, []string{"0 load c-1: 0", "0 load c-1: 0", "0 load c-1: 0", "0 load c-1: 0"}, 9, asBefore(none, none), nil},
	} {
		for turns, stands := range row.stands {
			p := size{2, 2}.filled(row.first...)
			at, faults := aid.Stops(turns, func(t *gate.Thread, c call) { do(p, t, c) }, row.c, puts(0, 3), puts(1, 3), takes)
			if at != stands || len(faults) != 0 {
				t.Errorf("R1: %+v, %d turns: it stands at %s: %v", row.c, turns, at, faults)
			}
			want := row.free
			if turns > row.claims {
				want = row.held
			}
			if got := all(p, nil, later...); !slices.Equal(got, want) {
				t.Errorf("R1, what follows: %+v, %d turns: then %v, not %v", row.c, turns, got, want)
			}
		}
	}
}

// TestFallen: a body that falls beside its calls leaves what it put.
func TestFallen(t *testing.T) {
	p := size{2, 2}.prio()
	r := gate.Run([]int{0, 1}, 99, func(t *gate.Thread) {
		defer p.Put(t, 1, 8)
		p.Put(t, 0, 7)
		panic("x")
	}, func(t *gate.Thread) { p.Take(t) })
	if got := all(p, nil, takes, takes, takes); !slices.Equal(r.Fell, []int{0}) || r.End != api.Over || !slices.Equal(got, []answer{took(1, 8), took(0, 7), none}) {
		t.Errorf("what follows: %v: %+v", got, r)
	}
}
