package count_test

import (
	"slices"
	"testing"

	"treadle/aid"
	"treadle/api"
	"treadle/gate"
)

// TestAmongOthers: threads that meet at one cell, each with its own call: the chapter's example, and who goes round again.
func TestAmongOthers(t *testing.T) {
	yes, ok := answer{ok: true}, answer{}
	for _, row := range []struct {
		what  string
		of    size
		first []call // free, ahead of the run
		calls [][]call
		picks []int
		log   string
		want  [][]answer
	}{
		{"the chapter's", size{stripes: 1}, nil, [][]call{{{op: raise, n: 5}}, {{op: raise, n: 3}}}, []int{0, 1, 0},
			"0 load c0: 0; 1 load c0: 0; 0 cas c0 0 5: 0 ok; 1 cas c0 0 3: 5 no; 1 load c0: 5", [][]answer{{yes}, {{}}}},
		{"both rise", size{stripes: 1}, nil, [][]call{{{op: raise, n: 5}}, {{op: raise, n: 3}}}, []int{0, 1, 1},
			"0 load c0: 0; 1 load c0: 0; 1 cas c0 0 3: 0 ok; 0 cas c0 0 5: 3 no; 0 load c0: 3; 0 cas c0 3 5: 3 ok", [][]answer{{yes}, {yes}}},
		{"twice anew", size{stripes: 1}, nil, [][]call{{{op: raise, n: 9}}, {{op: raise, n: 1}, {op: raise, n: 2}}}, []int{0, 1, 1, 0, 0, 1, 1},
			"0 load c0: 0; 1 load c0: 0; 1 cas c0 0 1: 0 ok; 0 cas c0 0 9: 1 no; 0 load c0: 1; 1 load c0: 1; 1 cas c0 1 2: 1 ok; 0 cas c0 1 9: 2 no; 0 load c0: 2; 0 cas c0 2 9: 2 ok", [][]answer{{yes}, {yes, yes}}},
		{"the last ticket", size{stripes: 1, tickets: 1}, nil, [][]call{{{op: take}}, {{op: take}}}, []int{0, 1, 0},
			"0 load c0: 1; 1 load c0: 1; 0 cas c0 1 0: 1 ok; 1 cas c0 1 0: 0 no; 1 load c0: 0", [][]answer{{yes}, {{}}}},
		{"two tickets", size{stripes: 1, tickets: 2}, nil, [][]call{{{op: take}}, {{op: take}}}, []int{0, 1, 0},
			"0 load c0: 2; 1 load c0: 2; 0 cas c0 2 1: 2 ok; 1 cas c0 2 1: 1 no; 1 load c0: 1; 1 cas c0 1 0: 1 ok", [][]answer{{yes}, {yes}}},
		{"one is out", size{stripes: 1, tickets: 2}, []call{{op: take}}, [][]call{{{op: back}}, {{op: back}}}, []int{0, 1, 0},
			"0 load c0: 1; 1 load c0: 1; 0 cas c0 1 2: 1 ok; 1 cas c0 1 2: 2 no; 1 load c0: 2", [][]answer{{ok}, {{e: api.ErrArg}}}},
		{"two are out", size{stripes: 1, tickets: 2}, []call{{op: take}, {op: take}}, [][]call{{{op: back}}, {{op: back}}}, []int{0, 1, 0},
			"0 load c0: 0; 1 load c0: 0; 0 cas c0 0 1: 0 ok; 1 cas c0 0 1: 1 no; 1 load c0: 1; 1 cas c0 1 2: 1 ok", [][]answer{{ok}, {ok}}},
		{"there and back", size{stripes: 1, tickets: 2}, nil, [][]call{{{op: take}}, {{op: take}, {op: back}}}, []int{0, 1, 1, 1, 1},
			"0 load c0: 2; 1 load c0: 2; 1 cas c0 2 1: 2 ok; 1 load c0: 1; 1 cas c0 1 2: 1 ok; 0 cas c0 2 1: 2 ok", [][]answer{{yes}, {yes, ok}}},
		{"a sum goes by", size{stripes: 3}, nil, [][]call{{{op: sum}}, {{op: add, who: 0, n: 4}, {op: add, who: 2, n: 8}}}, []int{0, 1, 1},
			"0 load c0: 0; 1 add c0 4: 0; 1 add c1 8: 0; 0 load c2: 0; 0 load c1: 8", [][]answer{{{n: 8}}, {ok, ok}}},
	} {
		x := row.of.things()
		x.all(nil, row.first...)
		threads := aid.Scripts[call, answer]{Calls: row.calls, Do: x.do}
		r := gate.Run(row.picks, 99, threads.Bodies()...)
		if aid.Texts(r.Log) != row.log || r.End != api.Over || !slices.EqualFunc(threads.Got, row.want, slices.Equal) {
			t.Errorf("P4.1 to P4.3: %s:\n got %s, end %d, %v\nwant %s, %v", row.what, aid.Texts(r.Log), r.End, threads.Got, row.log, row.want)
		}
	}
}

// TestAnew: whoever is forestalled goes round again, however often.
func TestAnew(t *testing.T) {
	const times, out = 100, 150
	of := size{1, 0, 2 * out}
	for op, others := range map[int]func(i int) call{
		raise: func(i int) call { return call{op: raise, n: int64(i) + 1} },
		take:  func(int) call { return call{op: take} },
		back:  func(int) call { return call{op: back} },
	} {
		w := newWorld(of, [][]call{{{op: op, n: 2 * times}}, nil})
		for i := range times {
			w.threads.Calls[1] = append(w.threads.Calls[1], others(i))
		}
		w.x.all(nil, slices.Repeat([]call{{op: take}}, out)...)
		w.s.left -= out
		r := gate.Run(slices.Repeat([]int{0, 1, 1, 0}, times), api.MaxTurns, w.threads.Bodies()...)
		_, faults := w.threads.Ends(r, map[int]int64{2: out})
		want := answer{ok: op != back}
		if len(faults)+len(w.faults) > 0 || r.End != api.Over || r.Turns != 4*times+2 || w.threads.Got[0][0] != want {
			t.Errorf("P4.2, P4.3: %d: %v, %v, %d turns: %v", op, faults, w.faults, r.Turns, w.threads.Got[0])
		}
	}
}

// TestStopped: a thread that is stopped at whatever access of a call: the gate's own panic comes out of it, then and at each later call, and nothing is changed.
func TestStopped(t *testing.T) {
	for _, row := range []struct {
		c      call
		stands []string // at which access it is stopped, when it had so many turns
	}{
		{call{op: add, who: 1, n: 5}, []string{"0 add c-1 5: 4"}},
		{call{op: sum}, []string{"0 load c-1: 3", "0 load c-1: 4"}},
		{call{op: raise, n: 9}, []string{"0 load c-1: 7", "0 cas c0 7 9: 7 no"}},
		{call{op: raise, n: 7}, []string{"0 load c-1: 7"}},
		{call{op: top}, []string{"0 load c-1: 7"}},
		{call{op: take}, []string{"0 load c-1: 2", "0 cas c0 2 1: 2 no"}},
		{call{op: back}, []string{"0 load c-1: 2", "0 cas c0 2 3: 2 no"}},
		{call{op: left}, []string{"0 load c-1: 2"}},
	} {
		for turns, stands := range row.stands {
			x := size{2, 7, 3}.things()
			x.all(nil, call{op: add, who: 0, n: 3}, call{op: add, who: 1, n: 4}, call{op: take})
			at, faults := aid.Stops(turns, func(t *gate.Thread, c call) { x.do(t, c) }, row.c, each()...)
			if at != stands || len(faults) != 0 {
				t.Errorf("R1: %+v, %d turns: it stands at %s: %v", row.c, turns, at, faults)
			}
			stripes, _ := held(x.counter)
			if got := x.all(nil, call{op: top}, call{op: left}); !slices.Equal(stripes, []int64{3, 4}) || !slices.Equal(got, []answer{{n: 7}, {n: 2}}) {
				t.Errorf("R1: %+v, %d turns: left are %v, %v", row.c, turns, stripes, got)
			}
		}
	}
}
