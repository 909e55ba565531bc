package deque_test

import (
	"math"
	"slices"
	"testing"

	"treadle/aid"
	"treadle/api"
	"treadle/gate"
)

// meeting: threads that meet at one deque, each with its own calls.
type meeting struct {
	what  string
	of    size
	first []call // free, ahead of the run
	calls [][]call
	picks []int
	log   string
	want  [][]answer
}

func (m meeting) look(t *testing.T) {
	d := m.of.deque()
	all(d, nil, m.first...)
	threads := aid.Scripts[call, answer]{Calls: m.calls, Do: func(t *gate.Thread, c call) answer { return do(d, t, c) }}
	r := gate.Run(m.picks, 99, threads.Bodies()...)
	if aid.Texts(r.Log) != m.log || r.End != api.Over || !slices.EqualFunc(threads.Got, m.want, slices.Equal) {
		t.Errorf("P7.2 to P7.5: %s:\n got %s, end %d, %v\nwant %s, %v", m.what, aid.Texts(r.Log), r.End, threads.Got, m.log, m.want)
	}
}

// TestTheLast: an owner and a thief who both reach for the only value: the chapter's examples, and what else may come of it.
func TestTheLast(t *testing.T) {
	one := []call{pushes(7)}
	for _, m := range []meeting{
		{"the chapter's first", size{2, 0}, one, [][]call{{pops}, {steals}}, []int{1, 1, 1, 0, 0, 0, 0, 0, 1},
			"1 load c0: 0; 1 load c1: 1; 1 load c2: 7; 0 load c1: 1; 0 store c1 0: 1; 0 load c0: 0; 0 load c2: 7; 0 cas c0 0 1: 0 ok; 1 cas c0 0 1: 1 no; 0 store c1 1: 0",
			[][]answer{{popped(7)}, {lost}}},
		{"the chapter's second", size{2, 0}, one, [][]call{{pops}, {steals}}, []int{1, 1, 1, 0, 0, 0, 0, 1},
			"1 load c0: 0; 1 load c1: 1; 1 load c2: 7; 0 load c1: 1; 0 store c1 0: 1; 0 load c0: 0; 0 load c2: 7; 1 cas c0 0 1: 0 ok; 0 cas c0 0 1: 1 no; 0 store c1 1: 0",
			[][]answer{{no}, {stolen(7)}}},
		{"the document's fifth", size{2, 0}, nil, [][]call{{pushes(7), pops}, {steals}}, []int{0, 0, 0, 0, 1, 1, 1, 0, 0, 0, 0, 0, 1},
			"0 load c0: 0; 0 load c1: 0; 0 store c2 7: 0; 0 store c0 1: 0; 1 load c1: 0; 1 load c0: 1; 1 load c2: 7; 0 load c0: 1; 0 store c0 0: 1; 0 load c1: 0; 0 load c2: 7; 0 cas c1 0 1: 0 ok; 1 cas c1 0 1: 1 no; 0 store c0 1: 0",
			[][]answer{{okay, popped(7)}, {lost}}},
		{"the thief is there ahead of the owner's look at top", size{2, 0}, one, [][]call{{pops}, {steals}}, []int{1, 1, 1, 0, 0, 1, 0, 0},
			"1 load c0: 0; 1 load c1: 1; 1 load c2: 7; 0 load c1: 1; 0 store c1 0: 1; 1 cas c0 0 1: 0 ok; 0 load c0: 1; 0 store c1 1: 0",
			[][]answer{{no}, {stolen(7)}}},
		{"the thief comes behind the owner's lower bottom", size{2, 0}, one, [][]call{{pops}, {steals, steals}}, []int{0, 0, 1, 1, 0, 0, 0, 1, 1, 0},
			"0 load c0: 1; 0 store c0 0: 1; 1 load c1: 0; 1 load c0: 0; 0 load c1: 0; 0 load c2: 7; 0 cas c1 0 1: 0 ok; 1 load c1: 1; 1 load c0: 0; 0 store c0 1: 0",
			[][]answer{{popped(7)}, {none, none}}},
		{"the thief has looked at top, and comes to bottom behind all of it", size{2, 0}, one, [][]call{{pops}, {steals}}, []int{1, 0, 0, 0, 0, 0, 0, 1, 1, 1},
			"1 load c0: 0; 0 load c1: 1; 0 store c1 0: 1; 0 load c0: 0; 0 load c2: 7; 0 cas c0 0 1: 0 ok; 0 store c1 1: 0; 1 load c1: 1; 1 load c2: 7; 1 cas c0 0 1: 1 no",
			[][]answer{{popped(7)}, {lost}}},
		{"another value is there when the thief would get the first", size{2, 0}, one, [][]call{{pops, pushes(8)}, {steals, steals}}, []int{1, 1, 1, 0, 0, 0, 0, 0, 0, 0, 0, 0, 0, 1, 1, 1, 1, 1},
			"1 load c0: 0; 1 load c1: 1; 1 load c2: 7; 0 load c1: 1; 0 store c1 0: 1; 0 load c0: 0; 0 load c2: 7; 0 cas c0 0 1: 0 ok; 0 store c1 1: 0; 0 load c1: 1; 0 load c0: 1; 0 store c3 8: 0; 0 store c1 2: 1; 1 cas c0 0 1: 1 no; 1 load c0: 1; 1 load c1: 2; 1 load c3: 8; 1 cas c0 1 2: 1 ok",
			[][]answer{{popped(7), okay}, {lost, stolen(8)}}},
		{"it is the last, though it was not when the thief came", size{2, 0}, []call{pushes(7), pushes(8)}, [][]call{{pops, pops}, {steals}}, []int{1, 1, 0, 0, 0, 0, 0, 0, 0, 0, 1, 1},
			"1 load c0: 0; 1 load c1: 2; 0 load c1: 2; 0 store c1 1: 2; 0 load c0: 0; 0 load c2: 8; 0 load c1: 1; 0 store c1 0: 1; 0 load c0: 0; 0 load c3: 7; 1 load c3: 7; 1 cas c0 0 1: 0 ok; 0 cas c0 0 1: 1 no; 0 store c1 1: 0",
			[][]answer{{popped(8), no}, {stolen(7)}}},
		{"at the end of int64", size{2, math.MaxInt64}, one, [][]call{{pops}, {steals}}, []int{1, 1, 1, 0, 0, 0, 0, 1},
			"1 load c0: 9223372036854775807; 1 load c1: -9223372036854775808; 1 load c2: 7; 0 load c1: -9223372036854775808; 0 store c1 9223372036854775807: -9223372036854775808; 0 load c0: 9223372036854775807; 0 load c2: 7; " +
				"1 cas c0 9223372036854775807 -9223372036854775808: 9223372036854775807 ok; 0 cas c0 9223372036854775807 -9223372036854775808: -9223372036854775808 no; 0 store c1 -9223372036854775808: 9223372036854775807",
			[][]answer{{no}, {stolen(7)}}},
		{"lengths in the midst of it", size{2, 0}, one, [][]call{{pops}, {lengths, lengths, lengths}}, []int{0, 0, 1, 1, 0, 0, 0, 1, 1, 0, 1},
			"0 load c0: 1; 0 store c0 0: 1; 1 load c1: 0; 1 load c0: 0; 0 load c1: 0; 0 load c2: 7; 0 cas c1 0 1: 0 ok; 1 load c1: 1; 1 load c0: 0; 0 store c0 1: 0; 1 load c1: 1; 1 load c0: 1",
			[][]answer{{popped(7)}, {long(0), long(-1), long(0)}}},
		{"in the midst of a Pop of nothing", size{2, 0}, nil, [][]call{{pops}, {lengths, steals}}, []int{0, 0, 1, 1, 1, 1},
			"0 load c0: 0; 0 store c0 -1: 0; 1 load c1: 0; 1 load c0: -1; 1 load c1: 0; 1 load c0: -1; 0 load c1: 0; 0 store c0 0: -1",
			[][]answer{{no}, {long(-1), none}}},
	} {
		m.look(t)
	}
}

// TestAmongOthers: threads that meet where more than one value is there, or that come late.
func TestAmongOthers(t *testing.T) {
	two := []call{pushes(5), pushes(6)}
	for _, m := range []meeting{
		{"each has his own end", size{2, 0}, two, [][]call{{pops}, {steals}}, []int{0, 1, 0, 1, 0, 1, 0, 1},
			"0 load c0: 2; 1 load c1: 0; 0 store c0 1: 2; 1 load c0: 1; 0 load c1: 0; 1 load c2: 5; 0 load c3: 6; 1 cas c1 0 1: 0 ok",
			[][]answer{{popped(6)}, {stolen(5)}}},
		{"of two thieves one is the first", size{2, 0}, two, [][]call{{}, {steals, steals}, {steals}}, []int{0, 1, 0, 1, 0, 1, 1, 0},
			"1 load c0: 0; 2 load c0: 0; 1 load c1: 2; 2 load c1: 2; 1 load c2: 5; 2 load c2: 5; 2 cas c0 0 1: 0 ok; 1 cas c0 0 1: 1 no; 1 load c0: 1; 1 load c1: 2; 1 load c3: 6; 1 cas c0 1 2: 1 ok",
			[][]answer{nil, {lost, stolen(6)}, {stolen(5)}}},
		{"the place is pushed over ahead of the thief's look at it", size{2, 0}, two, [][]call{{pushes(9)}, {steals}, {steals}}, []int{1, 1, 2, 2, 2, 2, 0, 0, 0, 0, 0, 0},
			"1 load c0: 0; 1 load c1: 2; 2 load c0: 0; 2 load c1: 2; 2 load c2: 5; 2 cas c0 0 1: 0 ok; 0 load c1: 2; 0 load c0: 1; 0 store c2 9: 5; 0 store c1 3: 2; 1 load c2: 9; 1 cas c0 0 1: 1 no",
			[][]answer{{okay}, {lost}, {stolen(5)}}},
		{"another value at the same position, beneath which the thief is", size{2, 0}, two, [][]call{{pops, pushes(9)}, {steals, steals}}, []int{1, 1, 0, 0, 0, 0, 0, 0, 0, 0, 1, 1, 1, 1, 1, 1},
			"1 load c0: 0; 1 load c1: 2; 0 load c1: 2; 0 store c1 1: 2; 0 load c0: 0; 0 load c2: 6; 0 load c1: 1; 0 load c0: 0; 0 store c2 9: 6; 0 store c1 2: 1; 1 load c3: 5; 1 cas c0 0 1: 0 ok; 1 load c0: 1; 1 load c1: 2; 1 load c2: 9; 1 cas c0 1 2: 1 ok",
			[][]answer{{popped(6), okay}, {stolen(5), stolen(9)}}},
		{"a Push is refused, as long as a Steal is in its midst", size{2, 0}, two, [][]call{{pushes(8), pushes(9)}, {steals}}, []int{1, 1, 1, 0, 0, 1, 0, 0, 0, 0},
			"1 load c0: 0; 1 load c1: 2; 1 load c2: 5; 0 load c1: 2; 0 load c0: 0; 1 cas c0 0 1: 0 ok; 0 load c1: 2; 0 load c0: 1; 0 store c2 9: 5; 0 store c1 3: 2",
			[][]answer{{full, okay}, {stolen(5)}}},
		{"a Push finds room that came behind its first look", size{2, 0}, two, [][]call{{pushes(9)}, {steals}}, []int{0, 1, 1, 1, 1, 0, 0, 0},
			"0 load c0: 2; 1 load c1: 0; 1 load c0: 2; 1 load c2: 5; 1 cas c1 0 1: 0 ok; 0 load c1: 1; 0 store c2 9: 5; 0 store c0 3: 2",
			[][]answer{{okay}, {stolen(5)}}},
		{"a value is there when its Push is through, not ahead of that", size{2, 0}, nil, [][]call{{pushes(7)}, {steals, steals}}, []int{0, 0, 0, 1, 1, 0, 0, 0, 0, 0},
			"0 load c0: 0; 0 load c1: 0; 0 store c2 7: 0; 1 load c1: 0; 1 load c0: 0; 0 store c0 1: 0; 1 load c1: 0; 1 load c0: 1; 1 load c2: 7; 1 cas c1 0 1: 0 ok",
			[][]answer{{okay}, {none, stolen(7)}}},
		{"an owner steals, too", size{2, 0}, two, [][]call{{steals, pops}, {steals}}, []int{0, 0, 0, 1, 1, 1, 0, 0, 0, 0, 0, 0, 0},
			"0 load c0: 0; 0 load c1: 2; 0 load c2: 5; 1 load c0: 0; 1 load c1: 2; 1 load c2: 5; 0 cas c0 0 1: 0 ok; 0 load c1: 2; 0 store c1 1: 2; 0 load c0: 1; 0 load c3: 6; 0 cas c0 1 2: 1 ok; 0 store c1 2: 1; 1 cas c0 0 1: 2 no",
			[][]answer{{stolen(5), popped(6)}, {lost}}},
		{"a length above what there may be", size{2, 0}, two, [][]call{{pushes(9)}, {lengths}, {steals}}, []int{1, 2, 2, 2, 2, 0, 0, 0, 0},
			"1 load c0: 0; 2 load c0: 0; 2 load c1: 2; 2 load c2: 5; 2 cas c0 0 1: 0 ok; 0 load c1: 2; 0 load c0: 1; 0 store c2 9: 5; 0 store c1 3: 2; 1 load c1: 3",
			[][]answer{{okay}, {long(3)}, {stolen(5)}}},
	} {
		m.look(t)
	}
}

// TestTwoOwners: the steps are the same, whoever goes through them.
func TestTwoOwners(t *testing.T) {
	one, two := []call{pushes(5)}, []call{pushes(5), pushes(6)}
	for _, m := range []meeting{
		{"both pop one value", size{2, 0}, two, [][]call{{pops}, {pops}}, nil,
			"0 load c0: 2; 1 load c0: 2; 0 store c0 1: 2; 1 store c0 1: 1; 0 load c1: 0; 1 load c1: 0; 0 load c2: 6; 1 load c2: 6",
			[][]answer{{popped(6)}, {popped(6)}}},
		{"both reach for the last", size{2, 0}, one, [][]call{{pops}, {pops}}, nil,
			"0 load c0: 1; 1 load c0: 1; 0 store c0 0: 1; 1 store c0 0: 0; 0 load c1: 0; 1 load c1: 0; 0 load c2: 5; 1 load c2: 5; 0 cas c1 0 1: 0 ok; 1 cas c1 0 1: 1 no; 0 store c0 1: 0; 1 store c0 1: 1",
			[][]answer{{popped(5)}, {no}}},
		{"a Pop comes to two below top", size{2, 0}, one, [][]call{{pops}, {pops}}, []int{0, 0, 0, 0, 0, 1, 1, 1, 1},
			"0 load c0: 1; 0 store c0 0: 1; 0 load c1: 0; 0 load c2: 5; 0 cas c1 0 1: 0 ok; 1 load c0: 0; 1 store c0 -1: 0; 1 load c1: 1; 1 store c0 0: -1; 0 store c0 1: 0",
			[][]answer{{popped(5)}, {no}}},
		{"a Push below top", size{2, 0}, one, [][]call{{pops}, {pushes(9), steals}}, []int{0, 0, 0, 0, 0, 1, 1, 1, 1, 1, 1},
			"0 load c0: 1; 0 store c0 0: 1; 0 load c1: 0; 0 load c2: 5; 0 cas c1 0 1: 0 ok; 1 load c0: 0; 1 load c1: 1; 1 store c2 9: 5; 1 store c0 1: 0; 1 load c1: 1; 1 load c0: 1; 0 store c0 1: 1",
			[][]answer{{popped(5)}, {okay, none}}},
		{"both push at one position", size{2, 0}, nil, [][]call{{pushes(7), steals}, {pushes(8)}}, nil,
			"0 load c0: 0; 1 load c0: 0; 0 load c1: 0; 1 load c1: 0; 0 store c2 7: 0; 1 store c2 8: 7; 0 store c0 1: 0; 1 store c0 1: 1; 0 load c1: 0; 0 load c0: 1; 0 load c2: 8; 0 cas c1 0 1: 0 ok",
			[][]answer{{okay, stolen(8)}, {okay}}},
	} {
		m.look(t)
	}
}

// TestOneGetsOn: of so many thieves who go at one time one gets a value, each time; the others are told that they lost.
func TestOneGetsOn(t *testing.T) {
	const thieves, values = 16, 64
	for _, from := range []int64{0, math.MaxInt64 - 9} {
		var first []call
		for i := range values {
			first = append(first, pushes(int64(i)))
		}
		calls := slices.Repeat([][]call{slices.Repeat([]call{steals}, values)}, thieves)
		w := newWorld(size{values, from}, first, append([][]call{nil}, calls...))
		r := w.run(t, nil, api.MaxTurns)
		if r.End != api.Over || r.Turns != 4*values*thieves {
			t.Errorf("what follows: %d turns, end %d", r.Turns, r.End)
		}
		for i := range values {
			for h, got := range w.threads.Got[1:] {
				want := lost
				if h == 0 { // without picks he is the first at each round
					want = stolen(int64(i))
				}
				if got[i] != want {
					t.Fatalf("what follows: the thief %d is told %v, not %v", h, got[i], want)
				}
			}
		}
	}
}

// TestStopped: a thread that is stopped at whatever access of a call: the gate's own panic comes out of it, then and at each later call, and nothing is changed but by what was done.
func TestStopped(t *testing.T) {
	later := []call{lengths, steals, steals, pops, pushes(4), lengths, pushes(5), pushes(6), steals, pops, pops, lengths}
	empty := []answer{long(0), none, none, no, okay, long(1), okay, full, stolen(4), popped(5), no, long(0)}
	below := []answer{long(-1), none, none, no, okay, long(0), okay, okay, stolen(5), popped(6), no, long(0)}
	one := slices.Concat([]answer{long(1), stolen(7)}, empty[2:])
	two := slices.Concat([]answer{long(2), stolen(7), stolen(8)}, empty[3:])
	for _, row := range []struct {
		first  []call
		c      call
		stands []string   // at which access it is stopped, when it had so many turns
		later  [][]answer // what free calls are answered then
	}{
		{[]call{pushes(7)}, pushes(9), []string{"0 load c-1: 1", "0 load c-1: 0", "0 store c-1 9: 0", "0 store c0 2: 1"}, [][]answer{one, one, one, one}},
		{[]call{pushes(7), pushes(8)}, pushes(9), []string{"0 load c-1: 2", "0 load c-1: 0"}, [][]answer{two, two}},
		{[]call{pushes(7)}, pops, []string{"0 load c-1: 1", "0 store c0 0: 1", "0 load c-1: 0", "0 load c-1: 7", "0 cas c1 0 1: 0 no", "0 store c0 1: 0"},
			[][]answer{one, one, empty, empty, empty, below}},
		{[]call{pushes(7), pushes(8)}, pops, []string{"0 load c-1: 2", "0 store c0 1: 2", "0 load c-1: 0", "0 load c-1: 8"}, [][]answer{two, two, one, one}},
		{nil, pops, []string{"0 load c-1: 0", "0 store c0 -1: 0", "0 load c-1: 0", "0 store c0 0: -1"}, [][]answer{empty, empty, below, below}},
		{[]call{pushes(7)}, steals, []string{"0 load c-1: 0", "0 load c-1: 1", "0 load c-1: 7", "0 cas c0 0 1: 0 no"}, [][]answer{one, one, one, one}},
		{[]call{pushes(7)}, lengths, []string{"0 load c-1: 0", "0 load c-1: 1"}, [][]answer{one, one}},
	} {
		for turns, stands := range row.stands {
			d := size{2, 0}.deque()
			all(d, nil, row.first...)
			at, faults := aid.Stops(turns, func(t *gate.Thread, c call) { do(d, t, c) }, row.c, pushes(3), pops, steals, lengths)
			if at != stands || len(faults) != 0 {
				t.Errorf("R1: %+v, %d turns: it stands at %s: %v", row.c, turns, at, faults)
			}
			if got := all(d, nil, later...); !slices.Equal(got, row.later[turns]) {
				t.Errorf("R1: %+v, %d turns: then %v, not %v", row.c, turns, got, row.later[turns])
			}
		}
	}
}

// TestFallen: a body that falls beside its calls leaves the deque as it is.
func TestFallen(t *testing.T) {
	d := size{2, 0}.deque()
	r := gate.Run([]int{0, 1}, 99, func(t *gate.Thread) {
		defer d.Push(t, 8)
		d.Push(t, 7)
		panic("x")
	}, func(t *gate.Thread) { d.Len(t) })
	if got := all(d, nil, steals, pops, pops); !slices.Equal(r.Fell, []int{0}) || r.End != api.Over || !slices.Equal(got, []answer{stolen(7), popped(8), no}) {
		t.Errorf("what follows: %v: %+v", got, r)
	}
}
