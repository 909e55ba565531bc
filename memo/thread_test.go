package memo_test

import (
	"io"
	"slices"
	"strings"
	"testing"

	"treadle/aid"
	"treadle/api"
	"treadle/gate"
)

// meeting: threads that meet at a memo, each with its own calls.
type meeting struct {
	what  string
	size  int
	first []call // free, ahead of the run
	calls [][]call
	picks []int
	log   string
	told  string // in the order of the run, whoever it is
	left  string // who sleeps for good
}

func (m meeting) look(t *testing.T) {
	t.Helper()
	w := ours(m.size, m.first...)
	from := len(w.story)
	r := gate.Run(m.picks, api.MaxTurns, w.bodies(m.calls)...)
	end := api.Over
	if m.left != "" {
		end = api.Dead
	}
	if s := w.story[from:].String(); aid.Texts(r.Log) != m.log || s != m.told || aid.Texts(r.Left) != m.left || r.End != end || len(w.follows()) != 0 {
		t.Errorf("P15.2, P15.3: %s:\n got %s, end %d, left %s: %s\nwant %s: %s: %v", m.what, aid.Texts(r.Log), r.End, aid.Texts(r.Left), s, m.log, m.told, w.follows())
	}
}

// TestAmongOthers: threads that meet in the midst of their calls. (Of four places 1, 6 and 9 come to the third one first.)
func TestAmongOthers(t *testing.T) {
	type goes = [2]int
	a, b, c := gives("A", 5), gives("B", 6), gives("C", 7)
	for _, m := range []meeting{
		{"two of one key: the first one builds, the other one sleeps", 4, nil, [][]call{{gets(1, a)}, {gets(1, b)}}, aid.Goes(goes{0, 3}, goes{1, 3}, goes{0, 1}),
			"0 load c0: 0; 0 cas c0 0 2: 0 ok; 0 cas c1 0 1: 0 ok; 0 mark 1 5; 0 mark 1 6; 1 load c0: 2; 1 cas c1 0 1: 1 no; 1 load c1: 1; 0 store c1 2: 1; 1 park c1 1: 2; 0 swap c2 -1: 0", "A( ) get1:5 get1:built:5", ""},
		{"who gets the place does not build: another one claims it ahead of him", 4, nil, [][]call{{gets(1, a)}, {gets(1, b)}}, aid.Goes(goes{0, 2}, goes{1, 3}, goes{0, 9}),
			"0 load c0: 0; 0 cas c0 0 2: 0 ok; 1 load c0: 2; 1 cas c1 0 1: 0 ok; 1 mark 1 5; 1 mark 1 6; 1 store c1 2: 1; 0 cas c1 0 1: 2 no; 0 load c1: 2; 1 swap c2 -1: 0", "B( ) get1:6 get1:built:6", ""},
		{"both see that the place is free: who comes too late looks again, and finds its key", 4, nil, [][]call{{gets(1, a)}, {gets(1, b)}}, []int{0, 1, 1, 0, 0, 0, 0, 0, 0, 0},
			"0 load c0: 0; 1 load c0: 0; 1 cas c0 0 2: 0 ok; 0 cas c0 0 2: 2 no; 0 load c0: 2; 0 cas c1 0 1: 0 ok; 0 mark 1 5; 0 mark 1 6; 0 store c1 2: 1; 0 swap c2 -1: 0; 1 cas c1 0 1: 2 no; 1 load c1: 2", "A( ) get1:built:5 get1:5", ""},
		{"both see that the place is free: who comes too late looks again, and finds another key", 4, nil, [][]call{{gets(1, a)}, {gets(6, b)}}, aid.Goes(goes{0, 1}, goes{1, 2}, goes{0, 6}),
			"0 load c0: 0; 1 load c0: 0; 1 cas c0 0 7: 0 ok; 0 cas c0 0 2: 7 no; 0 load c0: 7; 0 load c1: 0; 0 cas c1 0 2: 0 ok; 0 cas c2 0 1: 0 ok; 0 mark 1 5; 0 mark 1 6; 0 store c2 2: 1; 1 cas c3 0 1: 0 ok; 1 mark 6 5; 1 mark 6 6; 0 swap c4 -1: 0; 1 store c3 2: 1; 1 swap c5 -1: 0", "A( ) B( ) get1:built:5 get6:built:6", ""},
		{"two see that the last place is free", 1, nil, [][]call{{gets(1, a)}, {gets(6, b), gets(1, c)}}, aid.Goes(goes{0, 1}, goes{1, 1}, goes{0, 3}, goes{1, 9}),
			"0 load c0: 0; 1 load c0: 0; 0 cas c0 0 2: 0 ok; 0 cas c1 0 1: 0 ok; 0 mark 1 5; 0 mark 1 6; 0 store c1 2: 1; 1 cas c0 0 7: 2 no; 1 load c0: 2; 1 load c0: 2; 1 cas c1 0 1: 2 no; 1 load c1: 2; 0 swap c2 -1: 0", "A( ) get6:errno:12 get1:5 get1:built:5", ""},
		{"who sleeps is woken by an error", 4, nil, [][]call{{gets(1, fails("A", io.EOF, adds()))}, {gets(1, b)}, {gets(1, b), gets(1, c)}}, aid.Goes(goes{0, 3}, goes{1, 3}, goes{1, 3}, goes{0, 2}, goes{1, 1}, goes{1, 9}),
			"0 load c0: 0; 0 cas c0 0 2: 0 ok; 0 cas c1 0 1: 0 ok; 0 mark 1 5; 1 load c0: 2; 1 cas c1 0 1: 1 no; 1 load c1: 1; 2 load c0: 2; 2 cas c1 0 1: 1 no; 2 load c1: 1; 0 add c2 1: 0; 0 mark 1 6; 0 store c1 3: 1; 1 park c1 1: 3; 2 park c1 1: 3; 2 load c0: 2; 2 cas c1 0 1: 3 no; 2 load c1: 3; 0 swap c3 -1: 0", "A( add:1 ) get1:EOF get1:EOF get1:EOF get1:built:EOF", ""},
		{"who comes between the Claim's refusal and the Load finds it built", 4, nil, [][]call{{gets(1, fallen("A"))}, {gets(1, b)}}, aid.Goes(goes{0, 3}, goes{1, 2}, goes{0, 1}, goes{1, 1}, goes{0, 1}),
			"0 load c0: 0; 0 cas c0 0 2: 0 ok; 0 cas c1 0 1: 0 ok; 0 mark 1 5; 0 mark 1 6; 1 load c0: 2; 1 cas c1 0 1: 1 no; 0 store c1 3: 1; 1 load c1: 3; 0 swap c2 -1: 0", "A( ) get1:panicked:A get1:built:panicked:A", ""},
		{"keys of one place, built beside one another", 4, []call{gets(9, c)}, [][]call{{gets(1, a)}, {gets(6, b)}, {lists(0)}}, []int{0, 1, 0, 1, 0, 1, 1, -1, -1, -1, -1, 0, 0, 0, 0, 0, 0},
			"0 load c0: 10; 1 load c0: 10; 0 load c1: 0; 1 load c1: 0; 0 cas c1 0 2: 0 ok; 1 cas c1 0 7: 2 no; 1 load c1: 2; 2 load c2: 0; 2 load c3: 0; 2 load c0: 10; 2 load c1: 2; 0 cas c4 0 1: 0 ok; 0 mark 1 5; 0 mark 1 6; 0 store c4 2: 1; 0 swap c5 -1: 0; 1 load c2: 0; 1 cas c2 0 7: 0 ok; 1 cas c6 0 1: 0 ok; 1 mark 6 5; 1 mark 6 6; 1 store c6 2: 1; 1 swap c7 -1: 0", "keys:[9,1] A( ) get1:built:5 B( ) get6:built:6", ""},
		{"the keys are looked at one by one: a later one may be there, and an earlier one not", 2, nil, [][]call{{lists(0)}, {gets(0, a), gets(1, b)}}, aid.Goes(goes{0, 1}, goes{1, 99}),
			"0 load c0: 0; 1 load c0: 0; 1 cas c0 0 1: 0 ok; 1 cas c1 0 1: 0 ok; 1 mark 0 5; 1 mark 0 6; 1 store c1 2: 1; 1 swap c2 -1: 0; 1 load c3: 0; 1 cas c3 0 2: 0 ok; 1 cas c4 0 1: 0 ok; 1 mark 1 5; 1 mark 1 6; 1 store c4 2: 1; 1 swap c5 -1: 0; 0 load c3: 2", "A( ) get0:built:5 B( ) get1:built:6 keys:[1]", ""},
		{"a key is there ahead of its building", 1, nil, [][]call{{gets(1, a)}, {lists(0), gets(2, b)}}, []int{0, 0, 1, 1, 0, 0},
			"0 load c0: 0; 0 cas c0 0 2: 0 ok; 1 load c0: 2; 1 load c0: 2; 0 cas c1 0 1: 0 ok; 0 mark 1 5; 0 mark 1 6; 0 store c1 2: 1; 0 swap c2 -1: 0", "keys:[1] get2:errno:12 A( ) get1:built:5", ""},
		{"a build asks for a key that another one builds: it sleeps, and so does who waits for it", 4, nil, [][]call{{gets(1, gives("D", 1, gets(2, b)))}, {gets(2, gives("E", 2, adds()))}, {gets(1, c)}}, aid.Goes(goes{1, 3}, goes{0, 6}, goes{1, 3}, goes{0, 3}, goes{1, 3}),
			"1 load c0: 0; 1 cas c0 0 3: 0 ok; 1 cas c1 0 1: 0 ok; 1 mark 2 5; 0 load c2: 0; 0 cas c2 0 2: 0 ok; 0 cas c3 0 1: 0 ok; 0 mark 1 5; 0 load c0: 3; 0 cas c1 0 1: 1 no; 0 load c1: 1; 2 load c2: 2; 2 cas c3 0 1: 1 no; 2 load c3: 1; 1 add c4 1: 0; 1 mark 2 6; 1 store c1 2: 1; 0 park c1 1: 2; 0 mark 1 6; 1 swap c5 -1: 0; 0 store c3 2: 1; 2 park c3 1: 2; 0 swap c6 -1: 0", "E( D( add:1 ) get2:2 ) get2:built:2 get1:1 get1:built:1", ""},
		{"a build that waits for another thread's, which waits for it: both sleep for good", 4, nil, [][]call{{gets(1, gives("D", 1, gets(2, b)))}, {gets(2, gives("E", 2, gets(1, a)))}}, aid.Goes(goes{0, 3}, goes{1, 6}),
			"0 load c0: 0; 0 cas c0 0 2: 0 ok; 0 cas c1 0 1: 0 ok; 0 mark 1 5; 1 load c2: 0; 1 cas c2 0 3: 0 ok; 1 cas c3 0 1: 0 ok; 1 mark 2 5; 1 load c0: 2; 1 cas c1 0 1: 1 no; 1 load c1: 1; 0 load c2: 3; 0 cas c3 0 1: 1 no; 0 load c3: 1", "D( E(", "0 park c3 1: 1; 1 park c1 1: 1"},
		{"who is refused, for its key or its build, makes no access in between", 1, []call{gets(1, a)}, [][]call{{gets(-1, b), gets(1, c)}, {gets(1, nil), gets(1, b)}}, []int{1, 0, 1, 0, 1, 0},
			"1 load c0: 2; 0 load c0: 2; 1 cas c1 0 1: 2 no; 0 cas c1 0 1: 2 no; 1 load c1: 2; 0 load c1: 2", "get-1:errno:1 get1:errno:1 get1:5 get1:5", ""},
	} {
		m.look(t)
	}
}

// TestLate: a thread that stands at whatever access of a call, while another one makes all kinds of calls.
func TestLate(t *testing.T) {
	a, b := gives("A", 5), gives("B", 6)
	firsts := [][]call{nil, {gets(1, a)}, {gets(6, fallen("F")), gets(9, a)}, {gets(0, a), gets(3, fails("E", io.EOF)), gets(4, b)}, {gets(1, a), gets(6, a), gets(9, a), gets(12, a)}}
	calls := [][]call{
		{gets(1, gives("C", 1, adds(), lists(0)))}, {gets(6, fallen("D"))}, {gets(9, gives("G", 2, gets(1, gives("H", 3)), grabs()))}, {lists(0), gets(1, a)}, {gets(0, fails("I", io.EOF)), gets(0, b)}, {gets(2, gives("K", 1, gets(9, b), gets(6, b), gets(1, b)))},
	}
	others := [][]call{
		{gets(1, b)}, {gets(6, gives("L", 4, gets(1, gives("M", 2))))}, {gets(9, b), gets(1, fallen("N")), gets(6, b), gets(2, b), gets(0, b)}, {lists(0), gets(1, b), lists(0)}, {gets(2, b), gets(-1, b), gets(1, nil), gets(0, b)}, {getsOf(1, 1, b), getsOf(1, 9, b), gets(12, b), lists(1)},
	}
	for _, first := range firsts {
		for _, mine := range calls {
			for _, other := range others {
				for stands := range accesses(first, mine) + 1 {
					p := newPair(t, []int{4, 1}, first)
					r := p.run(t, [][]call{mine, other}, aid.Goes([2]int{0, stands}, [2]int{1, 200}), api.MaxTurns)
					if p.ends(t); t.Failed() || r.End == api.Cut {
						t.Fatalf("behind %v: %v stands at %d, beside %v: %s", texts(first), texts(mine), stands, texts(other), aid.Texts(r.Log))
					}
				}
			}
		}
	}
}

// accesses: how many these calls make, if nobody else goes between them.
func accesses(first, calls []call) int {
	report, _ := ours(4, first...).one(calls...)
	return report.Turns
}

// TestMany: so many threads that go by turns, at their accesses all at one time.
func TestMany(t *testing.T) {
	const threads = 48
	for seed := range 12 {
		calls := make([][]call, threads)
		for h := range calls {
			k, d := int64(h%(9+seed)), gives("b"+string(rune('a'+h)), int64(h))
			calls[h] = [][]call{
				{gets(k, d), gets(k+1, d)}, {gets(k, gives(d.name, 7, gets(k+20, d), adds())), lists(0)}, {getsOf(1, k, d), gets(k, fallen("F", adds()))}, {gets(k+3, fails("E", io.EOF, getsOf(1, k+20, d))), gets(k, d), gets(k+5, d)},
			}[(h+seed)%4]
		}
		p := newPair(t, []int{64, 16}, []call{gets(3, gives("x", 1)), getsOf(1, 0, fallen("y"))})
		r := p.run(t, calls, aid.Spread((seed%2)<<11, 7*(seed+1)), api.MaxTurns)
		if p.ends(t); t.Failed() || r.End != api.Over {
			t.Fatalf("what follows: %d: end %d", seed, r.End)
		}
	}
}

// TestStopped: a thread that is stopped at whatever access of a call: the gate's own panic comes out of it, then and at each later call, and nothing is changed but by what was done.
func TestStopped(t *testing.T) {
	a, b, z := gives("A", 5), gives("B", 6), gives("Z", 9)
	then := []call{lists(0), gets(1, z), gets(2, z), lists(0)}
	const free, taken, sleeps, filled = "keys:[] Z( ) get1:built:9 Z( ) get2:built:9 keys:[2,1]", "keys:[1] Z( ) get1:built:9 Z( ) get2:built:9 keys:[2,1]", "keys:[1] get1:sleeps Z( ) get2:built:9 keys:[2,1]", "keys:[1] get1:5 Z( ) get2:built:9 keys:[2,1]"
	const there, both, one, none = "keys:[2,1] get1:sleeps Z( ) get2:built:9 keys:[2,1]", "keys:[2,1] get1:sleeps get2:sleeps keys:[2,1]", "keys:[2,1] get1:sleeps get2:6 keys:[2,1]", "keys:[2,1] get1:5 get2:6 keys:[2,1]"
	for _, row := range []struct {
		first []call
		calls []call
		want  []string // what free calls are answered behind so many turns
	}{
		{nil, []call{gets(1, a)}, []string{free, free, taken, sleeps, filled}},
		{nil, []call{gets(1, fallen("F"))}, []string{free, free, taken, sleeps, strings.Replace(filled, "get1:5", "get1:panicked:F", 1)}},
		{nil, []call{gets(1, fails("E", io.EOF))}, []string{free, free, taken, sleeps, strings.Replace(filled, "get1:5", "get1:EOF", 1)}},
		{nil, []call{gets(1, gives("C", 5, adds(), adds()))}, []string{free, free, taken, sleeps, sleeps, sleeps, filled}},
		{nil, []call{gets(1, gives("C", 5, grabs()))}, []string{free, free, taken, sleeps, sleeps, filled}},
		{nil, []call{gets(1, gives("C", 5, gets(2, b)))}, []string{free, free, taken, sleeps, sleeps, there, both, one, one, none}},
		{[]call{gets(1, a)}, []call{gets(1, b)}, []string{filled, filled, filled}},
		{[]call{gets(1, a)}, []call{lists(0)}, []string{filled, filled, filled, filled}},
		{[]call{gets(1, a), gets(2, b), gets(9, b), gets(8, b)}, []call{gets(5, z)}, slices.Repeat([]string{"keys:[2,8,1,9] get1:5 get2:6 keys:[2,8,1,9]"}, 4)},
	} {
		for turns, want := range row.want {
			w := ours(4, row.first...)
			_, faults := aid.Stops(turns, func(t *gate.Thread, l []call) { w.makes(t, l...) }, row.calls, []call{gets(1, b)}, []call{gets(3, b)}, []call{lists(0)})
			if len(faults) != 0 {
				t.Errorf("R1: %v behind %v, %d turns: %v", texts(row.calls), texts(row.first), turns, faults)
			}
			if got := w.alone(then...); got != want || len(w.follows()) != 0 {
				t.Errorf("R1, what follows: %v behind %v, %d turns:\nthen %s\n not %s: %v", texts(row.calls), texts(row.first), turns, got, want, w.follows())
			}
		}
		if n := accesses(row.first, row.calls); n != len(row.want) {
			t.Errorf("%v behind %v: %d accesses, not %d", texts(row.calls), texts(row.first), n, len(row.want))
		}
	}
}

// TestStoppedAsleep: a thread that is stopped as it sleeps leaves the memo as it was; what it calls then is stopped, too.
func TestStoppedAsleep(t *testing.T) {
	w := ours(4)
	a := gives("A", 5)
	stands, faults := aid.Stops(6, func(t *gate.Thread, c call) { w.makes(t, c) }, gets(1, gives("C", 5, gets(1, a))), gets(1, a), gets(2, a), lists(0))
	if stands != "0 park c1 1: 1" || len(faults) != 0 {
		t.Errorf("P15.2, R1: it stands at %s: %v", stands, faults)
	}
	if got, want := w.alone(gets(1, a), gets(2, a), lists(0)), "get1:sleeps A( ) get2:built:5 keys:[2,1]"; got != want || len(w.follows()) != 0 {
		t.Errorf("P15.2, R1: behind it %s, not %s: %v", got, want, w.follows())
	}
}

// TestFallen: a body that falls beside its calls leaves the memo as it is; calls that it deferred are done.
func TestFallen(t *testing.T) {
	w := ours(4)
	r := gate.Run([]int{0, 0, 1}, 99, func(t *gate.Thread) {
		defer w.makes(t, gets(1, gives("A", 5)))
		w.makes(t, gets(6, gives("B", 6)))
		panic("x")
	}, func(t *gate.Thread) { w.makes(t, gets(1, gives("C", 7)), gets(6, gives("D", 8))) })
	if !slices.Equal(r.Fell, []int{0}) || r.End != api.Over || len(w.follows()) != 0 || len(w.memos[0].Keys(nil)) != 2 {
		t.Errorf("what follows: %s: %v: %+v", w.story, w.follows(), r)
	}
}
