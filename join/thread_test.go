package join_test

import (
	"io"
	"slices"
	"testing"

	"treadle/aid"
	"treadle/api"
	"treadle/future"
	"treadle/gate"
	"treadle/join"
)

// meeting: threads that meet at three futures and those that are made of them, each with its own calls.
type meeting struct {
	what  string
	first []call // free, ahead of the run
	calls [][]call
	picks []int
	log   string
	told  string // in the order of the run, whoever it is
	left  string // who sleeps for good
	then  string // what all futures came to
}

func (m meeting) look(t *testing.T) {
	t.Helper()
	w := ours(3, m.first...)
	from := len(w.story)
	r := gate.Run(m.picks, api.MaxTurns, w.bodies(m.calls)...)
	end := api.Over
	if m.left != "" {
		end = api.Dead
	}
	if s := w.story[from:].String(); aid.Texts(r.Log) != m.log || s != m.told || aid.Texts(r.Left) != m.left || r.End != end {
		t.Errorf("P16.1 to P16.4: %s:\n got %s, end %d, left %s: %s\nwant %s: %s", m.what, aid.Texts(r.Log), r.End, aid.Texts(r.Left), s, m.log, m.told)
	}
	if then := w.cameTo(); then != m.then || len(w.follows(end == api.Over)) != 0 {
		t.Errorf("P16.1 to P16.4: %s: behind it %s, not %s: %v", m.what, then, m.then, w.follows(end == api.Over))
	}
}

// TestAmongOthers: threads that meet in the midst of their calls.
func TestAmongOthers(t *testing.T) {
	type goes = [2]int
	for _, m := range []meeting{
		{"All: who is last at the Add fills it, not who was filled last", []call{alls(0, 1)}, [][]call{{completes(0, 5, nil)}, {completes(1, 6, nil)}}, aid.Goes(goes{0, 3}, goes{1, 4}, goes{0, 4}),
			"0 cas c0 0 1: 0 ok; 0 store c0 2: 1; 0 swap c1 -1: 1; 1 cas c2 0 1: 0 ok; 1 store c2 2: 1; 1 swap c3 -1: 1; 1 add c4 -1: 2; 0 add c4 -1: 1; 0 cas c5 0 1: 0 ok; 0 store c5 2: 1; 0 swap c6 -1: 0", "complete1:yes complete0:yes", "", "peek0:5 peek1:6 peek2:none peek3:2"},
		{"All: the error of the first by number, though it comes last in time", []call{alls(0, 1)}, [][]call{{completes(0, 5, io.EOF)}, {completes(1, 6, failed(8))}}, aid.Goes(goes{1, 4}, goes{0, 9}),
			"1 cas c0 0 1: 0 ok; 1 store c0 3: 1; 1 swap c1 -1: 1; 1 add c2 -1: 2; 0 cas c3 0 1: 0 ok; 0 store c3 3: 1; 0 swap c4 -1: 1; 0 add c2 -1: 1; 0 cas c5 0 1: 0 ok; 0 store c5 3: 1; 0 swap c6 -1: 0", "complete1:yes complete0:yes", "", "peek0:EOF peek1:failed_8 peek2:none peek3:0:_EOF"},
		{"All: the value of one that has not counted itself off is not lost", []call{alls(0, 1)}, [][]call{{completes(0, 5, nil)}, {completes(1, 6, nil), asks(3)}}, aid.Goes(goes{0, 3}, goes{1, 5}, goes{0, 9}),
			"0 cas c0 0 1: 0 ok; 0 store c0 2: 1; 0 swap c1 -1: 1; 1 cas c2 0 1: 0 ok; 1 store c2 2: 1; 1 swap c3 -1: 1; 1 add c4 -1: 2; 1 load c5: 0; 0 add c4 -1: 1; 0 cas c5 0 1: 0 ok; 0 store c5 2: 1; 0 swap c6 -1: 0; 1 park c5 0: 2", "complete1:yes complete0:yes values3:[5,6]", "", "peek0:5 peek1:6 peek2:none peek3:2"},
		{"All: one is filled as it is hung on: the function is called at once, by who hangs it", nil, [][]call{{alls(0, 1)}, {completes(0, 5, nil)}}, aid.Goes(goes{0, 2}, goes{1, 3}, goes{0, 9}),
			"0 load c0: 0; 0 add c1 1: 0; 1 cas c2 0 1: 0 ok; 1 store c2 2: 1; 1 swap c0 -1: 0; 0 cas c0 0 1: -1 no; 0 load c0: -1; 0 add c3 -1: 2; 0 load c4: 0; 0 add c5 1: 0; 0 cas c4 0 1: 0 ok", "complete0:yes all(0,1):#3", "", "peek0:5 peek1:none peek2:none peek3:none"},
		{"All: one is filled between the Store and the closing, as it is hung on", nil, [][]call{{alls(0)}, {completes(0, 5, nil)}}, aid.Goes(goes{1, 2}, goes{0, 3}, goes{1, 9}),
			"1 cas c0 0 1: 0 ok; 1 store c0 2: 1; 0 load c1: 0; 0 add c2 1: 0; 0 cas c1 0 1: 0 ok; 1 swap c1 -1: 1; 1 add c3 -1: 1; 1 cas c4 0 1: 0 ok; 1 store c4 2: 1; 1 swap c5 -1: 0", "all(0):#3 complete0:yes", "", "peek0:5 peek1:none peek2:none peek3:1"},
		{"All: the first ones are filled while it hangs on the last one, and it is filled by that", nil, [][]call{{alls(0, 1), peeks(3)}, {completes(0, 5, nil), completes(1, 6, nil)}}, aid.Goes(goes{0, 4}, goes{1, 8}, goes{0, 9}),
			"0 load c0: 0; 0 add c1 1: 0; 0 cas c0 0 1: 0 ok; 0 load c2: 0; 1 cas c3 0 1: 0 ok; 1 store c3 2: 1; 1 swap c0 -1: 1; 1 add c4 -1: 2; 1 cas c5 0 1: 0 ok; 1 store c5 2: 1; 1 swap c2 -1: 0; 0 add c6 1: 0; 0 cas c2 0 1: -1 no; 0 load c2: -1; 0 add c4 -1: 1; 0 cas c7 0 1: 0 ok; 0 store c7 2: 1; 0 swap c8 -1: 0; 0 load c7: 2", "complete0:yes complete1:yes all(0,1):#3 peek3:2", "", "peek0:5 peek1:6 peek2:none peek3:2"},
		{"All: who asks for the values sleeps till the last one", []call{alls(0, 1)}, [][]call{{asks(3)}, {completes(0, 5, nil)}, {completes(1, 6, nil)}}, aid.Goes(goes{0, 1}, goes{1, 4}, goes{2, 5}, goes{0, 1}, goes{0, 9}),
			"0 load c0: 0; 2 cas c1 0 1: 0 ok; 2 store c1 2: 1; 2 swap c2 -1: 1; 2 add c3 -1: 2; 1 cas c4 0 1: 0 ok; 1 store c4 2: 1; 1 swap c5 -1: 1; 1 add c3 -1: 1; 1 cas c0 0 1: 0 ok; 0 park c0 0: 1; 1 store c0 2: 1; 0 park c0 1: 2; 1 swap c6 -1: 0", "complete1:yes values3:[5,6] complete0:yes", "", "peek0:5 peek1:6 peek2:none peek3:2"},
		{"All: who asks for the values is told the error", []call{alls(0, 1)}, [][]call{{asks(3), awaits(3)}, {completes(0, 5, io.EOF)}, {completes(1, 6, nil)}}, aid.Goes(goes{0, 1}, goes{2, 4}, goes{1, 7}, goes{0, 9}),
			"0 load c0: 0; 1 cas c1 0 1: 0 ok; 1 store c1 3: 1; 1 swap c2 -1: 1; 1 add c3 -1: 2; 2 cas c4 0 1: 0 ok; 2 store c4 2: 1; 2 swap c5 -1: 1; 2 add c3 -1: 1; 2 cas c0 0 1: 0 ok; 2 store c0 3: 1; 2 swap c6 -1: 0; 0 park c0 0: 3; 0 load c0: 3", "complete0:yes complete1:yes values3:0:_EOF await3:0:_EOF", "", "peek0:EOF peek1:6 peek2:none peek3:0:_EOF"},
		{"All: somebody completes it from outside: what is there is told, and nobody fills it again", []call{alls(0, 1)}, [][]call{{asks(3), asks(3)}, {completes(0, 5, nil)}, {completes(3, 9, nil), completes(1, 6, nil)}}, aid.Goes(goes{1, 3}, goes{2, 2}, goes{0, 1}, goes{2, 9}, goes{1, 1}, goes{0, 9}),
			"1 cas c0 0 1: 0 ok; 1 store c0 2: 1; 1 swap c1 -1: 1; 2 cas c2 0 1: 0 ok; 2 store c2 2: 1; 0 load c2: 2; 2 swap c3 -1: 0; 2 cas c4 0 1: 0 ok; 2 store c4 2: 1; 2 swap c5 -1: 1; 2 add c6 -1: 2; 0 load c2: 2; 1 add c6 -1: 1; 1 cas c2 0 1: 2 no", "values3:[5,0] complete3:yes complete1:yes values3:[5,6] complete0:yes", "", "peek0:5 peek1:6 peek2:none peek3:9"},
		{"All: somebody claims it from outside, and does not fill it: who waits for it sleeps for good", []call{alls(0)}, [][]call{{awaits(3)}, {completes(0, 5, nil)}, {claims(3)}}, aid.Goes(goes{2, 1}, goes{1, 9}),
			"2 cas c0 0 1: 0 ok; 1 cas c1 0 1: 0 ok; 1 store c1 2: 1; 1 swap c2 -1: 1; 1 add c3 -1: 1; 1 cas c0 0 1: 1 no; 0 load c0: 1", "claim3:yes complete0:yes", "0 park c0 1: 1", "peek0:5 peek1:none peek2:none peek3:none"},
		{"All: of what nobody fills it is not filled", []call{alls(0, 1)}, [][]call{{asks(3)}, {completes(0, 5, nil)}}, nil,
			"0 load c0: 0; 1 cas c1 0 1: 0 ok; 1 store c1 2: 1; 1 swap c2 -1: 1; 1 add c3 -1: 2", "complete0:yes", "0 park c0 0: 0", "peek0:5 peek1:none peek2:none peek3:none"},
		{"Any: of two values the one whose claim comes first", []call{somes(0, 1)}, [][]call{{completes(0, 5, nil)}, {completes(1, 6, nil)}}, aid.Goes(goes{0, 3}, goes{1, 4}, goes{0, 1}, goes{1, 9}),
			"0 cas c0 0 1: 0 ok; 0 store c0 2: 1; 0 swap c1 -1: 1; 1 cas c2 0 1: 0 ok; 1 store c2 2: 1; 1 swap c3 -1: 1; 1 cas c4 0 1: 0 ok; 0 cas c4 0 1: 1 no; 1 store c4 2: 1; 1 swap c5 -1: 0", "complete0:yes complete1:yes", "", "peek0:5 peek1:6 peek2:none peek3:6"},
		{"Any: the last error comes beside a value", []call{somes(0, 1)}, [][]call{{completes(0, 5, io.EOF)}, {completes(1, 6, nil)}}, aid.Goes(goes{1, 3}, goes{0, 4}, goes{1, 9}),
			"1 cas c0 0 1: 0 ok; 1 store c0 2: 1; 1 swap c1 -1: 1; 0 cas c2 0 1: 0 ok; 0 store c2 3: 1; 0 swap c3 -1: 1; 0 add c4 1: 0; 1 cas c5 0 1: 0 ok; 1 store c5 2: 1; 1 swap c6 -1: 0", "complete0:yes complete1:yes", "", "peek0:EOF peek1:6 peek2:none peek3:6"},
		{"Any: two errors: who is last at the Add fills it with the first one's", []call{somes(0, 1)}, [][]call{{completes(0, 5, io.EOF)}, {completes(1, 6, failed(8))}}, aid.Goes(goes{0, 3}, goes{1, 3}, goes{0, 1}, goes{1, 9}),
			"0 cas c0 0 1: 0 ok; 0 store c0 3: 1; 0 swap c1 -1: 1; 1 cas c2 0 1: 0 ok; 1 store c2 3: 1; 1 swap c3 -1: 1; 0 add c4 1: 0; 1 add c4 1: 1; 1 cas c5 0 1: 0 ok; 1 store c5 3: 1; 1 swap c6 -1: 0", "complete0:yes complete1:yes", "", "peek0:EOF peek1:failed_8 peek2:none peek3:0:_EOF"},
		{"Any: a value comes as it is hung on another", nil, [][]call{{somes(0, 1), awaits(3)}, {completes(1, 5, nil)}}, aid.Goes(goes{0, 5}, goes{1, 3}, goes{0, 9}),
			"0 load c0: 0; 0 add c1 1: 0; 0 cas c0 0 1: 0 ok; 0 load c2: 0; 0 add c3 1: 0; 1 cas c4 0 1: 0 ok; 1 store c4 2: 1; 1 swap c2 -1: 0; 0 cas c2 0 1: -1 no; 0 load c2: -1; 0 cas c5 0 1: 0 ok; 0 store c5 2: 1; 0 swap c6 -1: 0; 0 load c5: 2", "complete1:yes any(0,1):#3 await3:5", "", "peek0:none peek1:5 peek2:none peek3:5"},
		{"Any: who sleeps is woken by the first value", []call{somes(0, 1)}, [][]call{{awaits(3)}, {completes(0, 5, io.EOF)}, {completes(1, 6, nil)}}, aid.Goes(goes{0, 1}, goes{1, 4}, goes{1, 9}),
			"0 load c0: 0; 2 cas c1 0 1: 0 ok; 2 store c1 2: 1; 2 swap c2 -1: 1; 2 cas c0 0 1: 0 ok; 1 cas c3 0 1: 0 ok; 1 store c3 3: 1; 1 swap c4 -1: 1; 1 add c5 1: 0; 2 store c0 2: 1; 2 swap c6 -1: 0; 0 park c0 0: 2", "complete0:yes complete1:yes await3:6", "", "peek0:EOF peek1:6 peek2:none peek3:6"},
		{"Quorum: who brings it to k fills it, and others go on", []call{quorums(1, 0, 1)}, [][]call{{completes(0, 5, nil)}, {completes(1, 6, nil)}}, aid.Goes(goes{0, 4}, goes{1, 4}, goes{0, 9}),
			"0 cas c0 0 1: 0 ok; 0 store c0 2: 1; 0 swap c1 -1: 1; 0 add c2 1: 0; 1 cas c3 0 1: 0 ok; 1 store c3 2: 1; 1 swap c4 -1: 1; 1 add c2 1: 1; 0 cas c5 0 1: 0 ok; 0 store c5 2: 1; 0 swap c6 -1: 0", "complete1:yes complete0:yes", "", "peek0:5 peek1:6 peek2:none peek3:1"},
		{"Quorum: values and errors come together: the errors are too many", []call{quorums(2, 0, 1, 2)}, [][]call{{completes(0, 5, nil)}, {completes(1, 6, io.EOF)}, {completes(2, 7, failed(8))}}, aid.Goes(goes{0, 4}, goes{1, 4}, goes{1, 9}),
			"0 cas c0 0 1: 0 ok; 0 store c0 2: 1; 0 swap c1 -1: 1; 0 add c2 1: 0; 2 cas c3 0 1: 0 ok; 2 store c3 3: 1; 2 swap c4 -1: 1; 2 add c5 1: 0; 1 cas c6 0 1: 0 ok; 1 store c6 3: 1; 1 swap c7 -1: 1; 1 add c5 1: 1; 1 cas c8 0 1: 0 ok; 1 store c8 3: 1; 1 swap c9 -1: 0", "complete0:yes complete2:yes complete1:yes", "", "peek0:5 peek1:EOF peek2:failed_8 peek3:failed_2"},
		{"Quorum: values and errors come together: the values are enough", []call{quorums(2, 0, 1, 2)}, [][]call{{completes(0, 5, nil)}, {completes(1, 6, io.EOF)}, {completes(2, 7, nil), awaits(3)}}, aid.Goes(goes{1, 4}, goes{0, 4}, goes{0, 9}),
			"1 cas c0 0 1: 0 ok; 1 store c0 3: 1; 1 swap c1 -1: 1; 1 add c2 1: 0; 0 cas c3 0 1: 0 ok; 0 store c3 2: 1; 0 swap c4 -1: 1; 0 add c5 1: 0; 2 cas c6 0 1: 0 ok; 2 store c6 2: 1; 2 swap c7 -1: 1; 2 add c5 1: 1; 2 cas c8 0 1: 0 ok; 2 store c8 2: 1; 2 swap c9 -1: 0; 2 load c8: 2", "complete1:yes complete0:yes complete2:yes await3:2", "", "peek0:5 peek1:EOF peek2:7 peek3:2"},
		{"two who come for the last place: who is refused leaves the others their functions", crowd(63, 1), [][]call{{alls(0, 1)}, {somes(2, 1)}, {completes(0, 5, nil), completes(2, 7, nil)}}, aid.Goes(goes{0, 4}, goes{1, 5}, goes{0, 1}, goes{1, 9}, goes{1, 9}),
			"0 load c0: 0; 0 add c1 1: 0; 0 cas c0 0 1: 0 ok; 0 load c2: 63; 1 load c3: 0; 1 add c4 1: 0; 1 cas c3 0 1: 0 ok; 1 load c2: 63; 1 add c5 1: 63; 0 add c5 1: 64; 2 cas c6 0 1: 0 ok; 2 store c6 2: 1; 2 swap c0 -1: 1; 2 add c7 -1: 2; 2 cas c8 0 1: 0 ok; 2 store c8 2: 1; 2 swap c3 -1: 1; 2 cas c9 0 1: 0 ok; 2 store c9 2: 1; 2 swap c10 -1: 0; 1 cas c2 63 64: 63 ok", "all(0,1):ErrFull complete0:yes complete2:yes any(2,1):#3", "", "peek0:5 peek1:none peek2:7 peek3:7"},
		{"one that hangs on another one: both are filled by one", []call{alls(0, 1), somes(3, 2), quorums(2, 4, 3, 2)}, [][]call{{completes(0, 5, nil)}, {completes(1, 6, nil)}, {awaits(5)}}, aid.Goes(goes{2, 1}, goes{0, 4}, goes{0, 99}),
			"2 load c0: 0; 0 cas c1 0 1: 0 ok; 0 store c1 2: 1; 0 swap c2 -1: 1; 0 add c3 -1: 2; 1 cas c4 0 1: 0 ok; 1 store c4 2: 1; 1 swap c5 -1: 1; 1 add c3 -1: 1; 1 cas c6 0 1: 0 ok; 1 store c6 2: 1; 1 swap c7 -1: 2; 1 cas c8 0 1: 0 ok; 1 store c8 2: 1; 1 swap c9 -1: 1; 1 add c10 1: 0; 1 add c10 1: 1; 1 cas c0 0 1: 0 ok; 1 store c0 2: 1; 1 swap c11 -1: 0; 2 park c0 0: 2", "complete0:yes complete1:yes await5:2", "", "peek0:5 peek1:6 peek2:none peek3:2 peek4:2 peek5:2"},
	} {
		m.look(t)
	}
}

// TestTheListIsTakenAsItIs: other threads may change the list of the caller while a call hangs on the futures: it goes on with those that were there.
func TestTheListIsTakenAsItIs(t *testing.T) {
	for what, hangs := range map[string]func(t *gate.Thread, l futures) bool{
		"All":    func(t *gate.Thread, l futures) bool { j, e := join.All(t, l...); return j != nil && e == api.OK },
		"Any":    func(t *gate.Thread, l futures) bool { g, e := join.Any(t, l...); return g != nil && e == api.OK },
		"Quorum": func(t *gate.Thread, l futures) bool { g, e := join.Quorum(t, 2, l...); return g != nil && e == api.OK },
	} {
		for _, other := range []*future.Future{nil, future.New(), new(future.Future)} {
			l := futures{future.New(), future.New(), future.New()}
			third := l[2]
			is := false
			r := gate.Run(aid.Goes([2]int{0, 4}, [2]int{1, 1}), api.MaxTurns, func(t *gate.Thread) { is = hangs(t, l) }, func(t *gate.Thread) {
				future.New().Peek(t)
				clear(l)
				l[0], l[2] = other, other
			})
			if !is || r.End != api.Over || r.Turns != 10 || l[1] != nil || l[0] != other {
				t.Errorf("R5: %s: %v: %s", what, is, aid.Texts(r.Log))
			}
			if r = gate.Run(nil, 9, func(t *gate.Thread) { third.Complete(t, 5, nil) }); r.Turns < 4 {
				t.Errorf("R5: %s: it does not hang on the last one: %s", what, aid.Texts(r.Log))
			}
		}
	}
}

// firsts: what is done ahead of a call, of three futures and those that are made of them.
var firsts = [][]call{
	nil, {alls(0, 1), somes(1, 2), quorums(2, 0, 1, 2)}, {somes(0, 1), thens(3, busy("C", completes(2, 6, nil), alls(1, 2))), thens(0, fallen("F"))}, {completes(1, 4, io.EOF), quorums(1, 0, 1, 2)}, {alls(0, 0, 1), somes(3, 1), claims(2)}, crowd(63, 1), slices.Concat(crowd(62, 0), []call{alls(0, 1)}),
}

// TestLate: a thread that stands at whatever access of a call, while another one makes all kinds of calls.
func TestLate(t *testing.T) {
	calls := [][]call{{alls(0, 1), asks(6)}, {somes(1, 0, 2)}, {quorums(2, 2, 1, 0)}, {completes(0, 1, nil)}, {completes(0, 1, io.EOF)}, {asks(3)}, {completes(3, 8, nil)}}
	others := [][]call{
		{completes(0, 7, nil)}, {completes(0, 7, failed(8)), completes(1, 5, nil)}, {completes(1, 2, io.EOF), completes(2, 3, nil)}, {alls(0, 1), completes(1, 5, nil), asks(3)}, {somes(1, 0), quorums(1, 1), peeks(3)}, {completes(3, 9, nil), completes(0, 4, nil), asks(3)},
		{quorums(2, 0, 1, 2), completes(2, 1, nil), completes(1, 1, nil), completes(0, 1, nil)}, {thens(3, quiet("G")), alls(-1), somes(), completes(1, 3, nil), completes(0, 3, nil), awaits(3)},
	}
	for _, first := range firsts {
		for _, mine := range calls {
			for _, other := range others {
				for stands := range accesses(first, mine) + 1 {
					p := newPair(t, 3, first)
					r := p.run(t, [][]call{mine, other}, aid.Goes([2]int{0, stands}, [2]int{1, 200}), api.MaxTurns)
					if p.ends(t); t.Failed() || r.End == api.Cut {
						t.Fatalf("behind %v: %v stands at %d, beside %v: %s", texts(first), texts(mine), stands, texts(other), aid.Texts(r.Log))
					}
				}
			}
		}
	}
}

// accesses: how many these calls make, if nobody else goes between them.
func accesses(first, calls []call) int {
	report, _ := ours(3, first...).one(calls...)
	return report.Turns
}

// TestMany: so many threads that go by turns, at their accesses all at one time.
func TestMany(t *testing.T) {
	const threads = 48
	for seed := range 12 {
		calls := make([][]call, threads)
		for h := range calls {
			of := h % 4
			calls[h] = [][]call{
				{completes(of, int64(h), nil), awaits(of)}, {alls(of, 3-of, 4), asks(7), awaits(7)}, {somes(of, (of+1)%4), awaits(7)}, {quorums(2, 0, 1, 2, 3), awaits(7), peeks(5)},
				{completes(of, 3, failed(int64(h))), asks(4), thens(5, quiet("f"+string(rune('a'+h))))},
			}[(h+seed)%5]
		}
		p := newPair(t, 4, []call{alls(0, 1, 2, 3), somes(0, 1, 2, 3), quorums(3, 0, 1, 2, 3)})
		r := p.run(t, calls, aid.Spread((seed%2)<<11, 7*(seed+1)), api.MaxTurns)
		if p.ends(t); t.Failed() || r.End != api.Over {
			t.Fatalf("what follows: %d: end %d", seed, r.End)
		}
	}
}

// TestStopped: a thread that is stopped at whatever access of a call: the gate's own panic comes out of it, then and at each later call, and nothing is changed but by what was done, as by the words.
func TestStopped(t *testing.T) {
	calls := [][]call{
		{alls(0, 1, 2)}, {alls()}, {alls(0, 0)}, {somes(0, 1)}, {quorums(1, 2, 1, 0)}, {quorums(0, 1)}, {completes(0, 5, nil)}, {completes(1, 5, io.EOF)}, {asks(3)}, {asks(3), awaits(3), completes(3, 4, nil)},
	}
	for _, first := range firsts {
		for _, mine := range calls {
			for turns := range accesses(first, mine) {
				stopped(t, first, mine, turns)
			}
		}
	}
}

// stopped: a thread that makes these calls is stopped behind so many turns.
func stopped(t *testing.T, first, mine []call, turns int) {
	t.Helper()
	var story [2]string
	for i, w := range []*world{newWorld(made, 3), newWorld(words, 3)} {
		w.alone(first...)
		k := w.hand()
		stands, faults := aid.Stops(turns, func(t *gate.Thread, l []call) {
			for _, c := range l {
				w.does(t, k, c)
			}
		}, mine, []call{alls(0, 1)}, []call{somes(1)}, []call{quorums(1, 2)}, []call{completes(0, 3, nil)}, []call{awaits(0)}, []call{completes(2, 3, io.EOF)})
		if len(faults) != 0 {
			t.Errorf("R1: %v behind %v, %d turns: %v", texts(mine), texts(first), turns, faults)
		}
		story[i] = stands + ": " + w.story.String() + ": " + w.alone(tells(len(w.all))...)
		for _, f := range w.follows(false) {
			t.Errorf("R1: %v behind %v, %d turns: %s", texts(mine), texts(first), turns, f)
		}
	}
	if story[0] != story[1] {
		t.Errorf("R1: %v behind %v, %d turns:\n got %s\nwant %s", texts(mine), texts(first), turns, story[0], story[1])
	}
}

// TestStoppedAsleep: a thread that is stopped as it sleeps leaves the joint as it was; what it calls then is stopped, too.
func TestStoppedAsleep(t *testing.T) {
	w := ours(2, alls(0, 1), completes(0, 5, nil))
	k := w.hand()
	stands, faults := aid.Stops(1, func(t *gate.Thread, c call) { w.does(t, k, c) }, asks(2), asks(2), alls(0), somes(1), quorums(1, 1), quorums(0), alls(), completes(1, 3, nil))
	if got, want := w.alone(asks(2), completes(1, 6, nil), asks(2)), "values2:sleeps complete1:yes values2:[5,6]"; stands != "0 park c0 0: 0" || len(faults) != 0 || got != want {
		t.Errorf("P16.2, R1: it stands at %s: %v; then %s, not %s", stands, faults, got, want)
	}
}

// TestFallen: a body that falls beside its calls leaves the joint as it is; calls that it deferred are done.
func TestFallen(t *testing.T) {
	w := ours(2)
	r := gate.Run([]int{0, 0, 0, 0, 0, 0, 1}, 99, func(t *gate.Thread) {
		defer w.makes(t, completes(0, 6, nil))
		w.makes(t, alls(0, 1))
		panic("x")
	}, func(t *gate.Thread) { w.makes(t, completes(1, 7, nil), awaits(0)) })
	if !slices.Equal(r.Fell, []int{0}) || r.End != api.Over || len(w.follows(true)) != 0 || w.alone(asks(2)) != "values2:[6,7]" {
		t.Errorf("what follows: %s: %v: %+v", w.story, w.follows(true), r)
	}
}
