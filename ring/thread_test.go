package ring_test

import (
	"math"
	"slices"
	"testing"

	"treadle/aid"
	"treadle/api"
	"treadle/gate"
)

// TestAmongOthers: threads that meet at one ring, each with its own calls: the chapter's example, who goes round again, who is held up.
func TestAmongOthers(t *testing.T) {
	for _, row := range []struct {
		what  string
		of    size
		first []call // free, ahead of the run
		calls [][]call
		picks []int
		log   string
		want  [][]answer
	}{
		{"the chapter's", size{2, 0}, nil, [][]call{{puts(7)}, {puts(8), takes}}, []int{0, 0, 0, 1, 1, 1, 1, 1, 1, 1},
			"0 load c0: 0; 0 load c1: 0; 0 cas c0 0 1: 0 ok; 1 load c0: 1; 1 load c2: 1; 1 cas c0 1 2: 1 ok; 1 store c3 8: 0; 1 store c2 2: 1; 1 load c4: 0; 1 load c1: 0; 0 store c5 7: 0; 0 store c1 1: 0",
			[][]answer{{okay}, {okay, none}}},
		{"the document's fourth", size{2, 0}, nil, [][]call{{puts(1), puts(2), puts(3), takes}, {takes}}, []int{0, 0, 0, 0},
			"0 load c0: 0; 0 load c1: 0; 0 cas c0 0 1: 0 ok; 0 store c2 1: 0; 1 load c3: 0; 0 store c1 1: 0; 1 load c1: 1; 0 load c0: 1; 1 cas c3 0 1: 0 ok; 0 load c4: 1; 1 load c2: 1; 0 cas c0 1 2: 1 ok; 1 store c1 2: 1; 0 store c5 2: 0; 0 store c4 2: 1; " +
				"0 load c0: 2; 0 load c1: 2; 0 cas c0 2 3: 2 ok; 0 store c2 3: 1; 0 store c1 3: 2; 0 load c3: 1; 0 load c4: 2; 0 cas c3 1 2: 1 ok; 0 load c5: 2; 0 store c4 3: 2",
			[][]answer{{okay, okay, okay, took(2)}, {took(1)}}},
		{"a Put is forestalled", size{2, 0}, nil, [][]call{{puts(7)}, {puts(8)}}, []int{0, 0, 1, 1, 1, 0, 0},
			"0 load c0: 0; 0 load c1: 0; 1 load c0: 0; 1 load c1: 0; 1 cas c0 0 1: 0 ok; 0 cas c0 0 1: 1 no; 0 load c0: 1; 1 store c2 8: 0; 0 load c3: 1; 1 store c1 1: 0; 0 cas c0 1 2: 1 ok; 0 store c4 7: 0; 0 store c3 2: 1",
			[][]answer{{okay}, {okay}}},
		{"a Put is forestalled, and then there is no room", size{2, 0}, []call{puts(5)}, [][]call{{puts(7)}, {puts(8)}}, []int{0, 0, 1, 1, 1, 0, 0, 0},
			"0 load c0: 1; 0 load c1: 1; 1 load c0: 1; 1 load c1: 1; 1 cas c0 1 2: 1 ok; 0 cas c0 1 2: 2 no; 0 load c0: 2; 0 load c2: 1; 1 store c3 8: 0; 1 store c1 2: 1",
			[][]answer{{full}, {okay}}},
		{"a Put comes late: its position is laid", size{2, 0}, nil, [][]call{{puts(7)}, {puts(8)}}, []int{0, 1, 1, 1, 1, 1},
			"0 load c0: 0; 1 load c0: 0; 1 load c1: 0; 1 cas c0 0 1: 0 ok; 1 store c2 8: 0; 1 store c1 1: 0; 0 load c1: 1; 0 load c0: 1; 0 load c3: 1; 0 cas c0 1 2: 1 ok; 0 store c4 7: 0; 0 store c3 2: 1",
			[][]answer{{okay}, {okay}}},
		{"a Put comes late: its position is taken already", size{2, 0}, nil, [][]call{{puts(7)}, {puts(8), takes}}, []int{0, 1, 1, 1, 1, 1, 1, 1, 1, 1, 1},
			"0 load c0: 0; 1 load c0: 0; 1 load c1: 0; 1 cas c0 0 1: 0 ok; 1 store c2 8: 0; 1 store c1 1: 0; 1 load c3: 0; 1 load c1: 1; 1 cas c3 0 1: 0 ok; 1 load c2: 8; 1 store c1 2: 1; 0 load c1: 2; 0 load c0: 1; 0 load c4: 1; 0 cas c0 1 2: 1 ok; 0 store c5 7: 0; 0 store c4 2: 1",
			[][]answer{{okay}, {okay, took(8)}}},
		{"a Put comes late at the end of int64", size{2, math.MaxInt64}, nil, [][]call{{puts(7)}, {puts(8)}}, []int{0, 1, 1, 1, 1, 1},
			"0 load c0: 9223372036854775807; 1 load c0: 9223372036854775807; 1 load c1: 9223372036854775807; 1 cas c0 9223372036854775807 -9223372036854775808: 9223372036854775807 ok; 1 store c2 8: 0; 1 store c1 -9223372036854775808: 9223372036854775807; " +
				"0 load c1: -9223372036854775808; 0 load c0: -9223372036854775808; 0 load c3: -9223372036854775808; 0 cas c0 -9223372036854775808 -9223372036854775807: -9223372036854775808 ok; 0 store c4 7: 0; 0 store c3 -9223372036854775807: -9223372036854775808",
			[][]answer{{okay}, {okay}}},
		{"a Take is forestalled, and nothing more is there", size{2, 0}, []call{puts(5)}, [][]call{{takes}, {takes}}, []int{0, 0, 1, 1, 1, 0, 0, 0},
			"0 load c0: 0; 0 load c1: 1; 1 load c0: 0; 1 load c1: 1; 1 cas c0 0 1: 0 ok; 0 cas c0 0 1: 1 no; 0 load c0: 1; 0 load c2: 1; 1 load c3: 5; 1 store c1 2: 1",
			[][]answer{{none}, {took(5)}}},
		{"a Take comes late", size{2, 0}, []call{puts(5), puts(6)}, [][]call{{takes}, {takes}}, []int{0, 1, 1, 1, 1, 1},
			"0 load c0: 0; 1 load c0: 0; 1 load c1: 1; 1 cas c0 0 1: 0 ok; 1 load c2: 5; 1 store c1 2: 1; 0 load c1: 2; 0 load c0: 1; 0 load c3: 2; 0 cas c0 1 2: 1 ok; 0 load c4: 6; 0 store c3 3: 2",
			[][]answer{{took(6)}, {took(5)}}},
		{"a Take comes late: another value is laid there", size{2, 0}, []call{puts(5), puts(6)}, [][]call{{takes}, {takes, puts(9)}}, []int{0, 1, 1, 1, 1, 1, 1, 1, 1, 1, 1},
			"0 load c0: 0; 1 load c0: 0; 1 load c1: 1; 1 cas c0 0 1: 0 ok; 1 load c2: 5; 1 store c1 2: 1; 1 load c3: 2; 1 load c1: 2; 1 cas c3 2 3: 2 ok; 1 store c2 9: 5; 1 store c1 3: 2; 0 load c1: 3; 0 load c0: 1; 0 load c4: 2; 0 cas c0 1 2: 1 ok; 0 load c5: 6; 0 store c4 3: 2",
			[][]answer{{took(6)}, {took(5), okay}}},
		{"a Take that is in the midst holds up Puts", size{2, 0}, []call{puts(5), puts(6)}, [][]call{{takes}, {puts(7), takes, puts(8)}}, []int{0, 0, 0, 0, 1, 1, 1, 1, 1, 1, 1, 1, 1},
			"0 load c0: 0; 0 load c1: 1; 0 cas c0 0 1: 0 ok; 0 load c2: 5; 1 load c3: 2; 1 load c1: 1; 1 load c0: 1; 1 load c4: 2; 1 cas c0 1 2: 1 ok; 1 load c5: 6; 1 store c4 3: 2; 1 load c3: 2; 1 load c1: 1; 0 store c1 2: 1",
			[][]answer{{took(5)}, {full, took(6), full}}},
		{"a Put that has laid its value holds up Takes, till it tells", size{2, 0}, nil, [][]call{{puts(7)}, {takes, takes}}, []int{0, 0, 0, 0, 1, 1, 0},
			"0 load c0: 0; 0 load c1: 0; 0 cas c0 0 1: 0 ok; 0 store c2 7: 0; 1 load c3: 0; 1 load c1: 0; 0 store c1 1: 0; 1 load c3: 0; 1 load c1: 1; 1 cas c3 0 1: 0 ok; 1 load c2: 7; 1 store c1 2: 1",
			[][]answer{{okay}, {none, took(7)}}},
		{"a Put ahead of its claim holds up nobody", size{2, 0}, nil, [][]call{{puts(7)}, {puts(8), takes}}, []int{0, 0, 1, 1, 1, 1, 1, 1, 1, 1, 1, 1},
			"0 load c0: 0; 0 load c1: 0; 1 load c0: 0; 1 load c1: 0; 1 cas c0 0 1: 0 ok; 1 store c2 8: 0; 1 store c1 1: 0; 1 load c3: 0; 1 load c1: 1; 1 cas c3 0 1: 0 ok; 1 load c2: 8; 1 store c1 2: 1; 0 cas c0 0 1: 1 no; 0 load c0: 1; 0 load c4: 1; 0 cas c0 1 2: 1 ok; 0 store c5 7: 0; 0 store c4 2: 1",
			[][]answer{{okay}, {okay, took(8)}}},
		{"a length above what there may be", size{2, 0}, nil, [][]call{{lengths}, {puts(1), puts(2), takes, puts(3)}}, []int{0, 1, 1, 1, 1, 1, 1, 1, 1, 1, 1, 1, 1, 1, 1, 1, 1, 1, 1, 1, 1},
			"0 load c0: 0; 1 load c1: 0; 1 load c2: 0; 1 cas c1 0 1: 0 ok; 1 store c3 1: 0; 1 store c2 1: 0; 1 load c1: 1; 1 load c4: 1; 1 cas c1 1 2: 1 ok; 1 store c5 2: 0; 1 store c4 2: 1; 1 load c0: 0; 1 load c2: 1; 1 cas c0 0 1: 0 ok; 1 load c3: 1; 1 store c2 2: 1; " +
				"1 load c1: 2; 1 load c2: 2; 1 cas c1 2 3: 2 ok; 1 store c3 3: 1; 1 store c2 3: 2; 0 load c1: 3",
			[][]answer{{long(3)}, {okay, okay, took(1), okay}}},
		{"a length of what is claimed alone", size{4, 9}, nil, [][]call{{puts(7)}, {lengths, takes, lengths}}, []int{0, 0, 0, 1, 1, 1, 1, 1, 1},
			"0 load c0: 9; 0 load c1: 9; 0 cas c0 9 10: 9 ok; 1 load c2: 9; 1 load c0: 10; 1 load c2: 9; 1 load c1: 9; 1 load c2: 9; 1 load c0: 10; 0 store c3 7: 0; 0 store c1 10: 9",
			[][]answer{{okay}, {long(1), none, long(1)}}},
	} {
		x := row.of.ring()
		all(x, nil, row.first...)
		threads := aid.Scripts[call, answer]{Calls: row.calls, Do: func(t *gate.Thread, c call) answer { return do(x, t, c) }}
		r := gate.Run(row.picks, 99, threads.Bodies()...)
		if aid.Texts(r.Log) != row.log || r.End != api.Over || !slices.EqualFunc(threads.Got, row.want, slices.Equal) {
			t.Errorf("P6.2 to P6.4: %s:\n got %s, end %d, %v\nwant %s, %v", row.what, aid.Texts(r.Log), r.End, threads.Got, row.log, row.want)
		}
	}
}

// TestAnew: whoever is forestalled, or comes late, goes round again, however often; and takes what is his then.
func TestAnew(t *testing.T) {
	const times = 100
	var fill []call
	for i := range 2 * times {
		fill = append(fill, puts(int64(i)))
	}
	for _, row := range []struct {
		what  string
		first []call
		c     call
		other call
		picks []int // again and again
		turns int
		want  answer
	}{
		{"a Put, forestalled", nil, puts(-9), puts(5), []int{0, 0, 1, 1, 1, 1, 1, 0}, 8*times + 5, okay},
		{"a Put, late", nil, puts(-9), puts(5), []int{0, 1, 1, 1, 1, 1, 0}, 7*times + 5, okay},
		{"a Take, forestalled", fill, takes, takes, []int{0, 0, 1, 1, 1, 1, 1, 0}, 8*times + 5, took(times)},
		{"a Take, late", fill, takes, takes, []int{0, 1, 1, 1, 1, 1, 0}, 7*times + 5, took(times)},
	} {
		for _, from := range []int64{0, math.MaxInt64 - times/2} {
			w := newWorld(size{256, from}, row.first, [][]call{{row.c}, slices.Repeat([]call{row.other}, times)})
			r := w.run(t, slices.Repeat(row.picks, times), api.MaxTurns)
			if got := w.threads.Got[0]; r.End != api.Over || r.Turns != row.turns || !slices.Equal(got, []answer{row.want}) {
				t.Errorf("P6.2, P6.3: %s, from %d: %d turns: %v", row.what, from, r.Turns, got)
			}
		}
	}
}

// TestStopped: a thread that is stopped at whatever access of a call: the gate's own panic comes out of it, then and at each later call, and nothing is changed but by what was done: who has claimed holds up the others for good.
func TestStopped(t *testing.T) {
	later := []call{lengths, takes, takes, puts(4), lengths, puts(5), takes, takes, lengths}
	asBefore := []answer{long(1), took(7), none, okay, long(1), okay, took(4), took(5), long(0)}
	asFull := []answer{long(2), took(7), took(8), okay, long(1), okay, took(4), took(5), long(0)}
	for _, row := range []struct {
		first  []call
		c      call
		stands []string   // at which access it is stopped, when it had so many turns
		later  [][]answer // what free calls are answered then
	}{
		{[]call{puts(7)}, puts(9), []string{"0 load c-1: 1", "0 load c-1: 1", "0 cas c0 1 2: 1 no", "0 store c-1 9: 0", "0 store c1 2: 1"},
			[][]answer{asBefore, asBefore, asBefore,
				{long(2), took(7), none, okay, long(2), full, none, none, long(2)},
				{long(2), took(7), none, okay, long(2), full, none, none, long(2)}}},
		{[]call{puts(7), puts(8)}, puts(9), []string{"0 load c-1: 2", "0 load c-1: 1"}, [][]answer{asFull, asFull}},
		{[]call{puts(7), puts(8)}, takes, []string{"0 load c-1: 0", "0 load c-1: 1", "0 cas c0 0 1: 0 no", "0 load c-1: 7", "0 store c1 2: 1"},
			[][]answer{asFull, asFull, asFull,
				{long(1), took(8), none, full, long(0), full, none, none, long(0)},
				{long(1), took(8), none, full, long(0), full, none, none, long(0)}}},
		{[]call{puts(7)}, lengths, []string{"0 load c-1: 0", "0 load c-1: 1"}, [][]answer{asBefore, asBefore}},
	} {
		for turns, stands := range row.stands {
			x := size{2, 0}.ring()
			all(x, nil, row.first...)
			at, faults := aid.Stops(turns, func(t *gate.Thread, c call) { do(x, t, c) }, row.c, puts(3), takes, lengths)
			if at != stands || len(faults) != 0 {
				t.Errorf("R1: %+v, %d turns: it stands at %s: %v", row.c, turns, at, faults)
			}
			if got := all(x, nil, later...); !slices.Equal(got, row.later[turns]) {
				t.Errorf("R1, what follows: %+v, %d turns: then %v, not %v", row.c, turns, got, row.later[turns])
			}
		}
	}
}

// TestFallen: a body that falls beside its calls leaves the ring as it is.
func TestFallen(t *testing.T) {
	x := size{2, 0}.ring()
	r := gate.Run([]int{0, 1}, 99, func(t *gate.Thread) {
		defer x.Put(t, 8)
		x.Put(t, 7)
		panic("x")
	}, func(t *gate.Thread) { x.Len(t) })
	if got := all(x, nil, takes, takes, takes); !slices.Equal(r.Fell, []int{0}) || r.End != api.Over || !slices.Equal(got, []answer{took(7), took(8), none}) {
		t.Errorf("what follows: %v: %+v", got, r)
	}
}
