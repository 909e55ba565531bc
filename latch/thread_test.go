package latch_test

import (
	"math"
	"slices"
	"testing"
	"testing/synctest"

	"treadle/aid"
	"treadle/api"
	"treadle/gate"
)

// meet: threads that meet at one thing, each with its own calls.
type meet struct {
	what  string
	of    size
	first []call // free, ahead of the run
	calls [][]call
	picks []int
	log   string
	left  string // who is left where; of one the run ended Dead
	want  [][]answer
}

func (m meet) look(t *testing.T) {
	x := m.of.things()
	x.all(nil, m.first...)
	threads := aid.Scripts[call, answer]{Calls: m.calls, Do: x.do}
	r := gate.Run(m.picks, 99, threads.Bodies()...)
	end := api.Over
	if m.left != "" {
		end = api.Dead
	}
	if aid.Texts(r.Log) != m.log || aid.Texts(r.Left) != m.left || r.End != end || !slices.EqualFunc(threads.Got, m.want, slices.Equal) {
		t.Errorf("%s:\n got %s, end %d, left %s, %v\nwant %s, left %s, %v", m.what, aid.Texts(r.Log), r.End, aid.Texts(r.Left), threads.Got, m.log, m.left, m.want)
	}
}

func TestLatchesAmongOthers(t *testing.T) {
	ok, wrong := answer{}, answer{e: api.ErrArg}
	downs := func(n int64) call { return call{op: down, n: n} }
	waits := call{op: wait}
	for _, m := range []meet{
		{"who waits is woken", size{2, 1}, nil, [][]call{{waits}, {downs(2)}}, nil,
			"0 load c0: 2; 1 load c0: 2; 1 cas c0 2 0: 2 ok; 0 park c0 2: 0; 0 load c0: 0", "", [][]answer{{ok}, {ok}}},
		{"who waits is woken ahead of its end, and sleeps again", size{2, 1}, nil, [][]call{{waits}, {downs(1), downs(1)}}, []int{0, 1, 1, 0, 0, 1, 1},
			"0 load c0: 2; 1 load c0: 2; 1 cas c0 2 1: 2 ok; 0 park c0 2: 1; 0 load c0: 1; 1 load c0: 1; 1 cas c0 1 0: 1 ok; 0 park c0 1: 0; 0 load c0: 0", "", [][]answer{{ok}, {ok, ok}}},
		{"it comes to 0 between", size{2, 1}, nil, [][]call{{waits}, {downs(1), downs(1)}}, []int{0, 1, 1, 1, 1},
			"0 load c0: 2; 1 load c0: 2; 1 cas c0 2 1: 2 ok; 1 load c0: 1; 1 cas c0 1 0: 1 ok; 0 park c0 2: 0; 0 load c0: 0", "", [][]answer{{ok}, {ok, ok}}},
		{"it comes to 0 behind a look", size{2, 1}, nil, [][]call{{waits}, {downs(1), downs(1)}}, []int{0, 1, 1, 0, 1, 1},
			"0 load c0: 2; 1 load c0: 2; 1 cas c0 2 1: 2 ok; 0 park c0 2: 1; 1 load c0: 1; 1 cas c0 1 0: 1 ok; 0 load c0: 0", "", [][]answer{{ok}, {ok, ok}}},
		{"who comes later", size{1, 1}, nil, [][]call{{downs(1)}, {waits}}, []int{0, 0, 0},
			"0 load c0: 1; 0 cas c0 1 0: 1 ok; 1 load c0: 0", "", [][]answer{{ok}, {ok}}},
		{"two wait", size{1, 1}, nil, [][]call{{waits}, {waits}, {downs(1)}}, nil,
			"0 load c0: 1; 1 load c0: 1; 2 load c0: 1; 2 cas c0 1 0: 1 ok; 0 park c0 1: 0; 1 park c0 1: 0; 0 load c0: 0; 1 load c0: 0", "", [][]answer{{ok}, {ok}, {ok}}},
		{"one is left", size{2, 1}, nil, [][]call{{waits}, {downs(1)}}, nil,
			"0 load c0: 2; 1 load c0: 2; 1 cas c0 2 1: 2 ok; 0 park c0 2: 1; 0 load c0: 1", "0 park c0 1: 1", [][]answer{{}, {ok}}},
		{"two go down at once", size{2, 1}, nil, [][]call{{downs(1)}, {downs(1)}}, []int{0, 1, 0},
			"0 load c0: 2; 1 load c0: 2; 0 cas c0 2 1: 2 ok; 1 cas c0 2 1: 1 no; 1 load c0: 1; 1 cas c0 1 0: 1 ok", "", [][]answer{{ok}, {ok}}},
		{"there is no room for both", size{3, 1}, nil, [][]call{{downs(2)}, {downs(3)}}, []int{0, 1, 0},
			"0 load c0: 3; 1 load c0: 3; 0 cas c0 3 1: 3 ok; 1 cas c0 3 0: 1 no; 1 load c0: 1", "", [][]answer{{ok}, {wrong}}},
		{"the last one", size{1, 1}, nil, [][]call{{downs(1)}, {downs(1)}}, []int{0, 1, 1},
			"0 load c0: 1; 1 load c0: 1; 1 cas c0 1 0: 1 ok; 0 cas c0 1 0: 0 no; 0 load c0: 0", "", [][]answer{{wrong}, {ok}}},
		{"what is told", size{9, 1}, []call{downs(1)}, [][]call{{downs(2), {op: left}}, {{op: left}, {op: left}}}, []int{0, 1, 0, 1},
			"0 load c0: 8; 1 load c0: 8; 0 cas c0 8 6: 8 ok; 1 load c0: 6; 0 load c0: 6", "", [][]answer{{ok, {n: 6}}, {{n: 8}, {n: 6}}}},
	} {
		synctest.Test(t, m.look)
	}
}

func TestLocksAmongOthers(t *testing.T) {
	ok, yes, state := answer{}, answer{ok: true}, answer{e: api.ErrState}
	locks, tries, unlocks := call{op: lock}, call{op: try}, call{op: unlock}
	both := []call{locks, unlocks}
	for _, m := range []meet{
		{"the chapter's", size{0, 1}, nil, [][]call{both, both}, []int{0, 1, 1, 0},
			"0 cas c0 0 1: 0 ok; 1 cas c0 0 1: 1 no; 1 swap c0 2: 1; 0 swap c0 0: 2; 1 park c0 2: 0; 1 swap c0 2: 0; 1 swap c0 0: 2", "", [][]answer{{ok, ok}, {ok, ok}}},
		{"it comes free ahead of the swap", size{0, 1}, nil, [][]call{both, both}, []int{0, 1, 0, 0, 0},
			"0 cas c0 0 1: 0 ok; 1 cas c0 0 1: 1 no; 0 swap c0 0: 1; 1 swap c0 2: 0; 1 swap c0 0: 2", "", [][]answer{{ok, ok}, {ok, ok}}},
		{"somebody else was first", size{0, 1}, nil, [][]call{both, both, both}, []int{0, 1, 1, 0, 1, 1, 1, 0, 0, 0},
			"0 cas c0 0 1: 0 ok; 1 cas c0 0 1: 1 no; 1 swap c0 2: 1; 0 swap c0 0: 2; 2 cas c0 0 1: 0 ok; 2 swap c0 0: 1; 1 park c0 2: 0; 1 swap c0 2: 0; 1 swap c0 0: 2", "", [][]answer{{ok, ok}, {ok, ok}, {ok, ok}}},
		{"and has it yet", size{0, 1}, nil, [][]call{both, both, both}, []int{0, 1, 1, 0, 1, 0, 0, 0, 0, 0, 0},
			"0 cas c0 0 1: 0 ok; 1 cas c0 0 1: 1 no; 1 swap c0 2: 1; 0 swap c0 0: 2; 2 cas c0 0 1: 0 ok; 1 park c0 2: 1; 1 swap c0 2: 1; 2 swap c0 0: 2; 1 park c0 2: 0; 1 swap c0 2: 0; 1 swap c0 0: 2", "", [][]answer{{ok, ok}, {ok, ok}, {ok, ok}}},
		{"two sleep", size{0, 1}, nil, [][]call{both, both, both}, []int{0, 1, 1, 1, 1, 0, 0, 0, 0},
			"0 cas c0 0 1: 0 ok; 1 cas c0 0 1: 1 no; 1 swap c0 2: 1; 2 cas c0 0 1: 2 no; 2 swap c0 2: 2; 0 swap c0 0: 2; 1 park c0 2: 0; 1 swap c0 2: 0; 1 swap c0 0: 2; 2 park c0 2: 0; 2 swap c0 2: 0; 2 swap c0 0: 2", "", [][]answer{{ok, ok}, {ok, ok}, {ok, ok}}},
		{"nobody unlocks", size{0, 1}, nil, [][]call{{locks}, {locks}}, nil,
			"0 cas c0 0 1: 0 ok; 1 cas c0 0 1: 1 no; 1 swap c0 2: 1", "1 park c0 2: 2", [][]answer{{ok}, {}}},
		{"who has it locks again", size{0, 1}, nil, [][]call{{tries, locks}}, nil,
			"0 cas c0 0 1: 0 ok; 0 cas c0 0 1: 1 no; 0 swap c0 2: 1", "0 park c0 2: 2", [][]answer{{yes}}},
		{"another one unlocks", size{0, 1}, []call{tries}, [][]call{both, {unlocks}}, []int{0, 0, 1},
			"0 cas c0 0 1: 1 no; 0 swap c0 2: 1; 1 swap c0 0: 2; 0 park c0 2: 0; 0 swap c0 2: 0; 0 swap c0 0: 2", "", [][]answer{{ok, ok}, {ok}}},
		{"two try", size{0, 1}, nil, [][]call{{tries, unlocks}, {tries}}, []int{1, 0},
			"1 cas c0 0 1: 0 ok; 0 cas c0 0 1: 1 no; 0 swap c0 0: 1", "", [][]answer{{{}, ok}, {yes}}},
		{"two unlock", size{0, 1}, []call{locks}, [][]call{{unlocks}, {unlocks}}, []int{1},
			"1 swap c0 0: 1; 0 swap c0 0: 0", "", [][]answer{{state}, {ok}}},
	} {
		synctest.Test(t, m.look)
	}
}

func TestBarriersAmongOthers(t *testing.T) {
	last := func(round int64) answer { return answer{n: round, ok: true} }
	other := func(round int64) answer { return answer{n: round} }
	once, twice := []call{{op: arrive}}, []call{{op: arrive}, {op: arrive}}
	for _, m := range []meet{
		{"the second is last", size{0, 2}, nil, [][]call{once, once}, nil,
			"0 load c0: 0; 1 load c0: 0; 0 add c1 1: 0; 1 add c1 1: 1; 1 store c1 0: 2; 1 add c0 1: 0; 0 park c0 0: 1", "", [][]answer{{other(0)}, {last(0)}}},
		{"the first is last", size{0, 2}, nil, [][]call{once, once}, []int{0, 1, 1},
			"0 load c0: 0; 1 load c0: 0; 1 add c1 1: 0; 0 add c1 1: 1; 0 store c1 0: 2; 0 add c0 1: 0; 1 park c0 0: 1", "", [][]answer{{last(0)}, {other(0)}}},
		{"one of two", size{0, 2}, nil, [][]call{once}, nil, "0 load c0: 0; 0 add c1 1: 0", "0 park c0 0: 0", [][]answer{nil}},
		{"two of three", size{0, 3}, nil, [][]call{once, once}, nil,
			"0 load c0: 0; 1 load c0: 0; 0 add c1 1: 0; 1 add c1 1: 1", "0 park c0 0: 0; 1 park c0 0: 0", [][]answer{nil, nil}},
		{"who is let go comes again at once", size{0, 2}, nil, [][]call{twice, twice}, []int{0, 0, 1, 1, 1, 1, 1, 1, 0},
			"0 load c0: 0; 0 add c1 1: 0; 1 load c0: 0; 1 add c1 1: 1; 1 store c1 0: 2; 1 add c0 1: 0; 1 load c0: 1; 1 add c1 1: 0; 0 park c0 0: 1; 0 load c0: 1; 0 add c1 1: 1; 0 store c1 0: 2; 0 add c0 1: 1; 1 park c0 1: 2", "",
			[][]answer{{other(0), last(1)}, {last(0), other(1)}}},
		{"three", size{0, 3}, nil, [][]call{once, once, once}, []int{2, 2, 0, 0, 0},
			"2 load c0: 0; 2 add c1 1: 0; 0 load c0: 0; 0 add c1 1: 1; 1 load c0: 0; 1 add c1 1: 2; 1 store c1 0: 3; 1 add c0 1: 0; 2 park c0 0: 1; 0 park c0 0: 1", "",
			[][]answer{{other(0)}, {last(0)}, {other(0)}}},
		{"more than it is of: one sleeps through two rounds", size{0, 2}, nil, [][]call{once, twice, once}, []int{0, 0, 0, 0, 0, 0, 1, 1, 1, 1, 1, 1, 0},
			"0 load c0: 0; 0 add c1 1: 0; 1 load c0: 0; 1 add c1 1: 1; 1 store c1 0: 2; 1 add c0 1: 0; 1 load c0: 1; 1 add c1 1: 0; 2 load c0: 1; 2 add c1 1: 1; 2 store c1 0: 2; 2 add c0 1: 1; 0 park c0 0: 2; 1 park c0 1: 2", "",
			[][]answer{{other(0)}, {last(0), other(1)}, {last(1)}}},
		{"more than it is of: one who looked ahead of the last one's end", size{0, 1}, nil, [][]call{once, once}, []int{0, 1, 1, 1, 1},
			"0 load c0: 0; 1 load c0: 0; 1 add c1 1: 0; 1 store c1 0: 1; 1 add c0 1: 0; 0 add c1 1: 0; 0 store c1 0: 1; 0 add c0 1: 1", "",
			[][]answer{{last(0)}, {last(0)}}},
		{"more than it is of: one who comes ahead of the count's end", size{0, 1}, nil, [][]call{once, once}, []int{0, 1, 0, 1, 0},
			"0 load c0: 0; 1 load c0: 0; 0 add c1 1: 0; 1 add c1 1: 1; 0 store c1 0: 2; 0 add c0 1: 0; 1 park c0 0: 1", "",
			[][]answer{{last(0)}, {other(0)}}},
	} {
		synctest.Test(t, m.look)
	}
}

// TestAnew: whoever is forestalled, or woken in vain, goes round again, however often.
func TestAnew(t *testing.T) { synctest.Test(t, anew) }

func anew(t *testing.T) {
	const times = 100
	ones := slices.Repeat([]call{{op: down, n: 1}}, times)
	for _, row := range []struct {
		what  string
		of    size
		c     call
		other []call
		first []int // of the picks
		picks []int // behind them, again and again
		turns int
	}{
		{"Down", size{2 * times, 1}, call{op: down, n: times}, ones, nil, []int{0, 1, 1, 0}, 4*times + 2},
		{"Wait", size{times, 1}, call{op: wait}, ones, nil, []int{0, 1, 1, 0}, 4*times + 1},
		{"Lock", size{0, 1}, call{op: lock}, slices.Repeat([]call{{op: try}, {op: unlock}}, times), []int{1, 0}, []int{0, 1, 0, 1}, 4*times + 2},
	} {
		w := newWorld(row.of, [][]call{{row.c}, row.other})
		r := gate.Run(append(row.first, slices.Repeat(row.picks, times)...), api.MaxTurns, w.threads.Bodies()...)
		_, faults := w.threads.Ends(r, map[int]int64{latchCell: row.of.latch})
		if len(faults)+len(w.faults) > 0 || r.End != api.Over || r.Turns != row.turns || !slices.Equal(w.threads.Got[0], []answer{{}}) {
			t.Errorf("P5.1, P5.2: %s: %v, %v, %d turns: %v", row.what, faults, w.faults, r.Turns, w.threads.Got[0])
		}
	}
}

// TestStopped: a thread that is stopped at whatever access of a call: the gate's own panic comes out of it, then and at each later call, and nothing is changed but by what was done.
func TestStopped(t *testing.T) { synctest.Test(t, stopped) }

func stopped(t *testing.T) {
	for _, row := range []struct {
		c      call
		stands []string   // at which access it is stopped, when it had so many turns
		inside [][4]int64 // what the cells hold then
	}{
		{call{op: down, n: 2}, []string{"0 load c-1: 5", "0 cas c0 5 3: 5 no"}, [][4]int64{{5, 1, 0, 0}, {5, 1, 0, 0}}},
		{call{op: wait}, []string{"0 load c-1: 5", "0 park c0 5: 5"}, [][4]int64{{5, 1, 0, 0}, {5, 1, 0, 0}}},
		{call{op: left}, []string{"0 load c-1: 5"}, [][4]int64{{5, 1, 0, 0}}},
		{call{op: lock}, []string{"0 cas c-1 0 1: 1 no", "0 swap c0 2: 1", "0 park c0 2: 2"}, [][4]int64{{5, 1, 0, 0}, {5, 1, 0, 0}, {5, 2, 0, 0}}},
		{call{op: try}, []string{"0 cas c-1 0 1: 1 no"}, [][4]int64{{5, 1, 0, 0}}},
		{call{op: unlock}, []string{"0 swap c-1 0: 1"}, [][4]int64{{5, 1, 0, 0}}},
		{call{op: arrive}, []string{"0 load c-1: 0", "0 add c-1 1: 0", "0 store c1 0: 1", "0 add c0 1: 0"}, [][4]int64{{5, 1, 0, 0}, {5, 1, 0, 0}, {5, 1, 0, 1}, {5, 1, 0, 0}}},
	} {
		for turns, stands := range row.stands {
			x := size{7, 1}.things()
			x.all(nil, call{op: down, n: 2}, call{op: lock})
			at, faults := aid.Stops(turns, func(t *gate.Thread, c call) { x.do(t, c) }, row.c, each()...)
			if at != stands || len(faults) != 0 {
				t.Errorf("R1: %+v, %d turns: it stands at %s: %v", row.c, turns, at, faults)
			}
			if held := x.inside(); held != row.inside[turns] {
				t.Errorf("R1: %+v, %d turns: the cells hold %v", row.c, turns, held)
			}
		}
	}
}

// TestRefusedWhereStopped: what makes no access is answered even by a thread that is stopped.
func TestRefusedWhereStopped(t *testing.T) {
	x := size{5, 1}.things()
	var got []answer
	gate.Run(nil, 0, func(t *gate.Thread) {
		defer func() {
			for _, n := range []int64{0, -1, math.MinInt64} {
				got = append(got, x.do(t, call{op: down, n: n}))
			}
		}()
		x.latch.Left(t)
	})
	wrong := answer{e: api.ErrArg}
	if !slices.Equal(got, []answer{wrong, wrong, wrong}) {
		t.Errorf("P5.1: %v", got)
	}
}
