package task_test

import (
	"io"
	"slices"
	"testing"

	"treadle/aid"
	"treadle/api"
	"treadle/gate"
)

// meeting: threads that meet at tasks, each with its own calls.
type meeting struct {
	what  string
	p     plan
	calls [][]call
	picks []int
	log   string
	told  string // in the order of the run, whoever it is
	left  string // who sleeps for good
	then  string // what the tasks came to
}

func (m meeting) look(t *testing.T) {
	t.Helper()
	w := m.p.world()
	from := len(w.story)
	r := gate.Run(m.picks, api.MaxTurns, w.bodies(m.calls)...)
	end := api.Over
	if m.left != "" {
		end = api.Dead
	}
	if s := w.story[from:].String(); aid.Texts(r.Log) != m.log || s != m.told || aid.Texts(r.Left) != m.left || r.End != end {
		t.Errorf("P13.2 to P13.5: %s:\n got %s, end %d, left %s: %s\nwant %s: %s", m.what, aid.Texts(r.Log), r.End, aid.Texts(r.Left), s, m.log, m.told)
	}
	if then := w.cameTo(); then != m.then || len(w.follows(r.Log)) != 0 {
		t.Errorf("P13.2 to P13.5: %s: behind it %s, not %s: %v", m.what, then, m.then, w.follows(r.Log))
	}
}

// TestAmongOthers: threads that meet in the midst of their calls.
func TestAmongOthers(t *testing.T) {
	busy, never := fine(42, adds()), fallen("never")
	for _, m := range []meeting{
		{"two who run: the second one comes as the function runs", one(busy), [][]call{{runs(0)}, {runs(0), asks(0)}}, []int{0, 1, 1, 0, 0},
			"0 cas c0 0 1: 0 ok; 0 mark 7 2; 1 cas c0 0 1: 1 no; 1 load c0: 1; 0 add c1 1: 0; 0 mark 7 3; 0 store c0 2: 1", "f0( run0:no state0:1 add:1 ) run0:yes", "", "42"},
		{"two who run: the second one comes behind the function's end", one(busy), [][]call{{runs(0)}, {runs(0), asks(0)}}, []int{0, 0, 1, 1, 0},
			"0 cas c0 0 1: 0 ok; 0 mark 7 2; 0 add c1 1: 0; 0 mark 7 3; 1 cas c0 0 1: 1 no; 1 load c0: 1; 0 store c0 2: 1", "f0( add:1 ) run0:no state0:1 run0:yes", "", "42"},
		{"two who run: the last one comes first", one(fallen("x", adds())), [][]call{{runs(0)}, {runs(0)}}, []int{1, 1, 1, 0},
			"1 cas c0 0 1: 0 ok; 1 mark 7 2; 1 add c1 1: 0; 1 mark 7 3; 1 store c0 3: 1; 0 cas c0 0 1: 3 no", "f0( add:1 ) run0:yes run0:no", "", "panicked:x"},
		{"a Cancel ahead of a Run", one(never), [][]call{{runs(0), asks(0)}, {cancels(0, 5)}}, []int{1, 0, 0, 1},
			"1 cas c0 0 1: 0 ok; 1 mark 7 4; 0 cas c0 0 1: 1 no; 0 load c0: 1; 1 store c0 3: 1", "run0:no state0:1 cancel0:yes", "", "cancelled:5"},
		{"a Cancel beside a Run", one(busy), [][]call{{runs(0)}, {cancels(0, 5)}}, []int{0, 1, 0, 0},
			"0 cas c0 0 1: 0 ok; 0 mark 7 2; 1 cas c0 0 1: 1 no; 0 add c1 1: 0; 0 mark 7 3; 0 store c0 2: 1", "f0( cancel0:no add:1 ) run0:yes", "", "42"},
		{"two who cancel", one(never), [][]call{{cancels(0, 5)}, {cancels(0, 6), cancels(0, 7)}}, []int{0, 1, 0, 1},
			"0 cas c0 0 1: 0 ok; 0 mark 7 4; 1 cas c0 0 1: 1 no; 0 store c0 3: 1; 1 cas c0 0 1: 3 no", "cancel0:no cancel0:yes cancel0:no", "", "cancelled:5"},
		{"a Cancel that is refused", one(busy), [][]call{{cancels(0, 0), cancels(0, -1)}, {waits(0)}, {runs(0)}}, []int{1, 1, 1, 1},
			"2 cas c0 0 1: 0 ok; 2 mark 7 2; 2 add c1 1: 0; 2 mark 7 3; 2 store c0 2: 1; 1 load c0: 2", "cancel0:no cancel0:no f0( add:1 ) run0:yes wait0:42", "", "42"},
		{"who waits ahead of the claim sleeps on twice", one(busy), [][]call{{waits(0)}, {runs(0)}}, []int{0, 0, 0, 0, 0, 0},
			"0 load c0: 0; 1 cas c0 0 1: 0 ok; 1 mark 7 2; 0 park c0 0: 1; 1 add c1 1: 0; 1 mark 7 3; 1 store c0 2: 1; 0 park c0 1: 2", "f0( add:1 ) run0:yes wait0:42", "", "42"},
		{"who waits ahead of the claim, and goes behind the end", one(busy), [][]call{{waits(0)}, {runs(0)}}, []int{0, 1, 1, 1, 0},
			"0 load c0: 0; 1 cas c0 0 1: 0 ok; 1 mark 7 2; 1 add c1 1: 0; 1 mark 7 3; 1 store c0 2: 1; 0 park c0 0: 2", "f0( add:1 ) run0:yes wait0:42", "", "42"},
		{"who waits as it is claimed sleeps on once", one(failed(io.EOF, adds())), [][]call{{waits(0)}, {runs(0)}}, []int{1, 0, 0, 0, 0},
			"1 cas c0 0 1: 0 ok; 1 mark 7 2; 0 load c0: 1; 1 add c1 1: 0; 1 mark 7 3; 1 store c0 3: 1; 0 park c0 1: 3", "f0( add:1 ) run0:yes wait0:EOF", "", "EOF"},
		{"three who wait, and one who cancels", one(never), [][]call{{waits(0)}, {waits(0)}, {waits(0)}, {cancels(0, 5)}}, []int{0, 1, 1, 0, 1, 1, 0, 0, 0},
			"0 load c0: 0; 2 load c0: 0; 3 cas c0 0 1: 0 ok; 3 mark 7 4; 0 park c0 0: 1; 2 park c0 0: 1; 3 store c0 3: 1; 0 park c0 1: 3; 1 load c0: 3; 2 park c0 1: 3", "cancel0:yes wait0:cancelled:5 wait0:cancelled:5 wait0:cancelled:5", "", "cancelled:5"},
		{"its token is cancelled between the claim and the look", held(never), [][]call{{runs(0)}, {stops(0, 9), asks(0)}}, []int{0, 1, 0, 1, 1, 0},
			"0 cas c0 0 1: 0 ok; 1 cas c1 0 9: 0 ok; 0 load c1: 9; 0 mark 7 4; 1 swap c2 -1: 0; 1 load c0: 1; 0 store c0 3: 1", "stop0:yes state0:1 run0:no", "", "cancelled:9"},
		{"its token is cancelled behind the look", held(busy), [][]call{{runs(0)}, {stops(0, 9)}}, []int{0, 0, 1, 1, 0},
			"0 cas c0 0 1: 0 ok; 0 load c1: 0; 0 mark 7 2; 1 cas c1 0 9: 0 ok; 1 swap c2 -1: 0; 0 add c3 1: 0; 0 mark 7 3; 0 store c0 2: 1", "f0( stop0:yes add:1 ) run0:yes", "", "42"},
		{"its token is cancelled, and a Cancel comes ahead of the Run", held(never, stops(0, 9)), [][]call{{runs(0)}, {cancels(0, 5)}}, []int{1, 1, 0},
			"1 cas c0 0 1: 0 ok; 1 mark 7 4; 1 store c0 3: 1; 0 cas c0 0 1: 3 no", "cancel0:yes run0:no", "", "cancelled:5"},
		{"its token is cancelled, and a Cancel comes behind the claim", held(never, stops(0, 9)), [][]call{{runs(0)}, {cancels(0, 5)}, {waits(0)}}, []int{0, 0, 1, 1, 0},
			"0 cas c0 0 1: 0 ok; 0 load c1: 9; 0 mark 7 4; 1 cas c0 0 1: 1 no; 2 load c0: 1; 0 store c0 3: 1; 2 park c0 1: 3", "cancel0:no run0:no wait0:cancelled:9", "", "cancelled:9"},
		{"its token is cancelled, and nobody runs it", held(never), [][]call{{waits(0)}, {stops(0, 9)}}, nil,
			"0 load c0: 0; 1 cas c1 0 9: 0 ok; 1 swap c2 -1: 0", "stop0:yes", "0 park c0 0: 0", "nothing"},
		{"a function that waits for another task is waited for", plan{tasks: []spec{{1, none, fine(1, waits(1))}, {2, none, fallen("x", adds())}}}, [][]call{{runs(0)}, {waits(0)}, {runs(1)}}, []int{0, 0, 0, 1, 1, 0, 1, 1},
			"0 cas c0 0 1: 0 ok; 0 mark 1 2; 0 load c1: 0; 1 load c0: 1; 2 cas c1 0 1: 0 ok; 2 mark 2 2; 2 add c2 1: 0; 2 mark 2 3; 0 park c1 0: 1; 2 store c1 3: 1; 0 park c1 1: 3; 0 mark 1 3; 0 store c0 2: 1; 1 park c0 1: 2", "f0( f1( add:1 ) run1:yes wait1:panicked:x ) run0:yes wait0:1", "", "1, panicked:x"},
		{"functions that wait for one another sleep for good", plan{tasks: []spec{{1, none, fine(1, waits(1))}, {2, none, fine(2, waits(0))}}}, [][]call{{runs(0)}, {runs(1)}, {waits(1)}}, []int{0, 0, 0, 0},
			"0 cas c0 0 1: 0 ok; 0 mark 1 2; 0 load c1: 0; 1 cas c1 0 1: 0 ok; 1 mark 2 2; 0 park c1 0: 1; 1 load c0: 1; 2 load c1: 1", "f0( f1(", "0 park c1 1: 1; 1 park c0 1: 1; 2 park c1 1: 1", "nothing, nothing"},
		{"a function that waits for its own task sleeps for good", one(fine(1, waits(0))), [][]call{{waits(0)}, {runs(0)}, {cancels(0, 5)}}, []int{0, 0, 0, 0},
			"0 load c0: 0; 1 cas c0 0 1: 0 ok; 1 mark 7 2; 0 park c0 0: 1; 1 load c0: 1; 2 cas c0 0 1: 1 no", "f0( cancel0:no", "0 park c0 1: 1; 1 park c0 1: 1", "nothing"},
	} {
		m.look(t)
	}
}

// TestLate: a thread that stands at whatever access of a call, while another one makes all kinds of calls.
func TestLate(t *testing.T) {
	two := func(d deed, first ...call) plan {
		return plan{tokens: 1, tasks: []spec{{1, 0, d}, {2, none, fine(2, adds(), asks(0))}}, first: first}
	}
	plans := []plan{
		two(fine(1)), two(fine(1, adds(), adds())), two(failed(io.EOF, stops(0, 8))), two(fallen("x", runs(1), waits(1))), two(fine(1, waits(1))), two(fine(1), stops(0, 9)), two(fine(1), runs(1)), two(fine(1, adds()), cancels(1, 4)),
		two(fine(1), runs(0)), two(fallen(nil), cancels(0, 3)),
	}
	calls := []call{runs(0), cancels(0, 5), waits(0), asks(0), stops(0, 6)}
	others := [][]call{
		{runs(0)}, {cancels(0, 7)}, {waits(0)}, {asks(0), cancels(0, 0), asks(0)}, {stops(0, 7), runs(0), runs(1)}, {runs(1), runs(0), waits(0)}, {cancels(1, 3), cancels(0, 4), runs(0)}, {runs(0), waits(1)},
	}
	for _, p := range plans {
		for _, c := range calls {
			for _, other := range others {
				for stands := range accesses(p, c) + 1 {
					x := newPair(t, p)
					r := x.run(t, [][]call{{c}, other}, aid.Goes([2]int{0, stands}, [2]int{1, 99}), api.MaxTurns)
					x.ends(t, r.Log)
					if t.Failed() || r.End == api.Cut {
						t.Fatalf("%+v: %v stands at %d, beside %v: %s", p, c, stands, other, aid.Texts(r.Log))
					}
				}
			}
		}
	}
}

// accesses: how many a call makes, if nobody else goes between them.
func accesses(p plan, c call) int {
	report, _ := p.world().alone(c)
	return report.Turns
}

// TestMany: so many threads that go by turns, at their accesses all at one time.
func TestMany(t *testing.T) {
	const threads = 48
	for seed := range 12 {
		p := plan{tokens: 2, tasks: []spec{{1, none, fine(1, adds(), runs(1), adds())}, {2, 0, failed(io.EOF, adds(), stops(1, 3))}, {3, 1, fine(3, waits(0), adds())}, {4, none, fallen("x", adds(), cancels(2, 8))}}}
		calls := make([][]call, threads)
		for h := range calls {
			of := h % 4
			calls[h] = [][]call{{runs(of), waits(of)}, {waits(of), asks(of)}, {asks(of), runs((of + 1) % 4), waits((of + 1) % 4)}, {waits((of + 2) % 4), cancels(of, int64(h)), runs(of)}, {runs(of), cancels(of, 3)}}[(h+seed)%5]
		}
		x := newPair(t, p)
		r := x.run(t, calls, aid.Spread((seed%2)<<10, 7*(seed+1)), api.MaxTurns)
		if x.ends(t, r.Log); t.Failed() || r.End != api.Over {
			t.Fatalf("what follows: %d: end %d", seed, r.End)
		}
	}
}

// TestStopped: a thread that is stopped at whatever access of a call: the gate's own panic comes out of it, then and at each later call, and nothing is changed but by what was done.
func TestStopped(t *testing.T) {
	const waiting, claimed = "state0:0 cancel0:yes run0:no wait0:cancelled:9 state0:3", "state0:1 cancel0:no run0:no wait0:sleeps state0:1"
	then := []call{asks(0), cancels(0, 9), runs(0), waits(0), asks(0)}
	busy := fine(1, adds())
	for _, row := range []struct {
		p    plan
		c    call
		want []string // what free calls are answered behind so many turns
		log  string   // of the longest of them
	}{
		{one(busy), runs(0), []string{waiting, claimed, claimed}, "0 cas c0 0 1: 0 ok; 0 mark 7 2; 0 add c1 1: 0; 0 mark 7 3"},
		{one(fallen("x", adds())), runs(0), []string{waiting, claimed, claimed}, "0 cas c0 0 1: 0 ok; 0 mark 7 2; 0 add c1 1: 0; 0 mark 7 3"},
		{one(fine(1)), runs(0), []string{waiting, claimed}, "0 cas c0 0 1: 0 ok; 0 mark 7 2; 0 mark 7 3"},
		{one(fine(1, grabs())), runs(0), []string{waiting, claimed, claimed}, "0 cas c0 0 1: 0 ok; 0 mark 7 2; 0 add c1 1: 0; 0 mark 7 3"},
		{held(busy), runs(0), []string{waiting, claimed, claimed, claimed}, "0 cas c0 0 1: 0 ok; 0 load c1: 0; 0 mark 7 2; 0 add c2 1: 0; 0 mark 7 3"},
		{held(busy, stops(0, 3)), runs(0), []string{waiting, claimed, claimed}, "0 cas c0 0 1: 0 ok; 0 load c1: 3; 0 mark 7 4"},
		{one(busy), cancels(0, 5), []string{waiting, claimed}, "0 cas c0 0 1: 0 ok; 0 mark 7 4"},
		{held(busy), cancels(0, 5), []string{waiting, claimed}, "0 cas c0 0 1: 0 ok; 0 mark 7 4"},
		{one(busy), waits(0), []string{waiting, waiting}, "0 load c0: 0"},
		{one(busy), asks(0), []string{waiting}, ""},
		{one(busy, cancels(0, 2)), runs(0), []string{"state0:3 cancel0:no run0:no wait0:cancelled:2 state0:3"}, ""},
		{one(busy, runs(0)), cancels(0, 5), []string{"state0:2 cancel0:no run0:no wait0:1 state0:2"}, ""},
		{one(busy, runs(0)), waits(0), []string{"state0:2 cancel0:no run0:no wait0:1 state0:2"}, ""},
	} {
		for turns, want := range row.want {
			w := row.p.world()
			_, faults := aid.Stops(turns, func(t *gate.Thread, c call) { w.does(t, c) }, row.c, asks(0), runs(0), cancels(0, 3), waits(0))
			if len(faults) != 0 {
				t.Errorf("R1: %v of %+v, %d turns: %v", row.c, row.p, turns, faults)
			}
			w.awake = true
			if got := w.makes(nil, then...); got != want {
				t.Errorf("R1, P13.2 to P13.5: %v of %+v, %d turns:\nthen %s\n not %s", row.c, row.p, turns, got, want)
			}
			w = row.p.world()
			if r := gate.Run(nil, turns, w.bodies([][]call{{row.c}})...); turns == len(row.want)-1 && aid.Texts(r.Log) != row.log {
				t.Errorf("P13.2, P13.3: %v of %+v, %d turns: %s, not %s", row.c, row.p, turns, aid.Texts(r.Log), row.log)
			}
		}
		if n := accesses(row.p, row.c); row.c.op != wait && n != len(row.want) {
			t.Errorf("%v of %+v: %d accesses, not %d", row.c, row.p, n, len(row.want))
		}
	}
}

// TestStoppedAsleep: a thread that is stopped as it sleeps leaves the task as it was; what it calls then is stopped, too.
func TestStoppedAsleep(t *testing.T) {
	w := one(fine(1)).world()
	stands, faults := aid.Stops(1, func(t *gate.Thread, c call) { w.does(t, c) }, waits(0), waits(0), runs(0), cancels(0, 3), asks(0))
	if got, want := w.makes(nil, asks(0), runs(0), waits(0)), "state0:0 f0( ) run0:yes wait0:1"; stands != "0 park c0 0: 0" || len(faults) != 0 || got != want {
		t.Errorf("P13.4, R1: it stands at %s: %v; then %s, not %s", stands, faults, got, want)
	}
}

// TestFallen: a body that falls beside its calls leaves the tasks as they are; calls that it deferred are done.
func TestFallen(t *testing.T) {
	w := plan{tasks: []spec{{1, none, fine(1, adds())}, {2, none, fine(2)}}}.world()
	r := gate.Run([]int{0, 1, 1, 0}, 99, func(t *gate.Thread) {
		defer w.makes(t, runs(0), waits(0))
		panic("x")
	}, func(t *gate.Thread) {
		w.makes(t, runs(1))
		panic("y")
	}, func(t *gate.Thread) { w.makes(t, waits(0), waits(1)) })
	if got := w.cameTo(); !slices.Equal(r.Fell, []int{0, 1}) || r.End != api.Over || got != "1, 2" || len(w.follows(r.Log)) != 0 {
		t.Errorf("what follows: %s: %v: %+v", got, w.follows(r.Log), r)
	}
}
