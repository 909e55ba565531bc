package deque_test

import (
	"math"
	"math/rand"
	"slices"
	"testing"

	"treadle/aid"
	"treadle/api"
	"treadle/deque"
	"treadle/gate"
)

// The chapter's steps once more, along records: what a run tells and answers is held against them.

// cells: of a deque of this size.
func (m size) cells() aid.Deque { return aid.Deque{Places: m.n} }

// held: what the cells hold at first.
func (m size) held() map[int]int64 {
	held := map[int]int64{}
	m.cells().Held(held, m.from)
	return held
}

// did: a call along a record: where it is there, and what it is to answer.
type did struct {
	aid.Span
	call   call
	answer answer
}

// steps: of a call of a deque of this size: what it is to answer.
func (m size) steps(s *aid.Steps, c call) (a answer) {
	d := m.cells()
	switch c.op {
	case push:
		if !d.Push(s, c.v) {
			return full
		}
		return okay
	case pop:
		a.v, a.ok = d.Pop(s)
	case steal:
		a.v, a.how = d.Steal(s)
	case length:
		a.v = d.Len(s)
	}
	return a
}

// world: threads that call a deque, and what comes of them.
type world struct {
	of      size
	x       *deque.Deque
	held    map[int]int64 // what the cells hold ahead of the run
	had     []int64       // the values that are there then
	owned   bool          // the thread 0 alone pushes and pops
	threads aid.Scripts[call, answer]
	did     []*did // those that began, along the record, thread by thread
}

// newWorld: of a deque that one thread made the first calls of.
func newWorld(of size, first []call, calls [][]call) *world {
	x := of.deque()
	ahead := of.world(x, of.held(), [][]call{first})
	held, _ := ahead.threads.Ends(gate.Run(nil, api.MaxTurns, ahead.threads.Bodies()...), of.held())
	w := of.world(x, held, calls)
	w.had = ahead.there()
	return w
}

func (m size) world(x *deque.Deque, held map[int]int64, calls [][]call) *world {
	w := &world{of: m, x: x, held: held, owned: true}
	for _, l := range calls[min(1, len(calls)):] {
		w.owned = w.owned && !slices.ContainsFunc(l, func(c call) bool { return c.op == push || c.op == pop })
	}
	w.threads = aid.Scripts[call, answer]{Calls: calls, Do: func(t *gate.Thread, c call) answer { return do(x, t, c) }, Steps: w.steps}
	return w
}

func (w *world) steps(s *aid.Steps, c call) answer {
	d := &did{call: c}
	w.did = append(w.did, d)
	s.Span(&d.Span, func() { d.answer = w.of.steps(s, c) })
	return d.answer
}

// run plays the threads, and holds what comes of it against the steps; and, where there is one owner, against what follows.
func (w *world) run(t *testing.T, picks []int, most int) api.Report {
	t.Helper()
	r := gate.Run(picks, most, w.threads.Bodies()...)
	ends, faults := w.threads.Ends(r, w.held)
	if r.End == api.Dead || r.End == api.Cut && r.Turns < most || len(r.Fell) != 0 {
		t.Errorf("R1, W3: %+v", r)
	}
	around := goesAround(w.of.n)
	behind := w.of.world(w.x, ends, [][]call{around})
	last := gate.Run(nil, api.MaxTurns, behind.threads.Bodies()...)
	if _, l := behind.threads.Ends(last, ends); len(l) > 0 {
		faults = append(append(faults, "the cells hold what the record does not say"), l...)
	}
	if w.owned {
		faults = append(faults, w.follows(r.Log)...)
		if there := w.there(); r.End == api.Over && !asPlain(w.of.plain(there...), around, behind.threads.Got[0]) {
			t.Errorf("what follows: %v were pushed and not got: %v", there, behind.threads.Got[0])
		}
	}
	for _, f := range faults {
		t.Errorf("W1, what follows: %s", f)
	}
	return r
}

// pushed: the values that are there ahead of the run and those of all Pushes that were not refused, in their order; and behind which entry of the log each is there.
func (w *world) pushed() (l []int64, behind []int) {
	l, behind = slices.Clone(w.had), slices.Repeat([]int{-1}, len(w.had))
	for _, d := range w.did {
		if d.call.op == push && d.answer == okay {
			l, behind = append(l, d.call.v), append(behind, d.Last)
		}
	}
	return l, behind
}

// gets: the calls that got a value, in the order in which they did.
func (w *world) gets() []*did {
	l := slices.DeleteFunc(slices.Clone(w.did), func(d *did) bool { return !d.answer.got() })
	slices.SortFunc(l, func(a, b *did) int { return a.Last - b.Last })
	return l
}

// there: what was pushed and not got, when all calls have ended.
func (w *world) there() []int64 {
	l, _ := w.pushed()
	for _, d := range w.gets() {
		if k := slices.Index(l, d.answer.v); k >= 0 {
			l = slices.Delete(l, k, k+1)
		}
	}
	return l
}

// follows: what does not, of that what the chapter says follows. (Of unlike values.)
func (w *world) follows(log []api.Access) (faults []string) {
	fault := func(is bool, what string) {
		if is {
			faults = append(faults, what)
		}
	}
	values, behind := w.pushed()
	got, before := make([]bool, len(values)), -1
	for _, d := range w.gets() {
		k := slices.Index(values, d.answer.v)
		if k < 0 || got[k] || behind[k] >= d.Last {
			fault(true, "what is got was not pushed, or is got twice")
			continue
		}
		got[k] = true
		if d.call.op == steal {
			fault(k < before, "what is stolen does not come in the order in which it was pushed")
			before = k
			continue
		}
		for j := k + 1; j < len(values); j++ {
			fault(!got[j] && behind[j] < d.First, "what is popped was not pushed last")
		}
	}
	for _, d := range w.did {
		if d.Last >= len(log) {
			continue
		}
		others := slices.ContainsFunc(log[d.First:d.Last], func(a api.Access) bool { return a.Op == api.OpCas && a.Ok })
		fault(d.answer == lost && !others, "a Steal is Lost, and nobody else got a value meanwhile")
		fault(d.call.op == length && d.answer.v < -1, "a length below -1")
		if has, alone := w.aheadOf(d); alone {
			_, want := does(w.of.plain(make([]int64, has)...), d.call)
			is := d.answer
			fault(is.e != want.e || is.ok != want.ok || is.how != want.how || d.call.op == length && is.v != want.v, "with nobody in the midst of a call it is not answered as if alone")
		}
	}
	return faults
}

// aheadOf: how many values are there ahead of a call, and whether nobody is in the midst of another one from its first access to its last.
func (w *world) aheadOf(d *did) (has int, alone bool) {
	has, alone = len(w.had), true
	for _, o := range w.did {
		switch {
		case o.Last >= d.First:
			alone = alone && (o == d || o.First > d.Last)
		case o.call.op == push && o.answer == okay:
			has++
		case o.answer.got():
			has--
		}
	}
	return has, alone
}

// inOrder: whether there is an order of all calls, but Steals that are Lost and lengths, in which one alone would be answered so, and would leave what is there.
func (w *world) inOrder() bool {
	calls, got := make([][]call, len(w.threads.Calls)), make([][]answer, len(w.threads.Calls))
	for i, l := range w.threads.Calls {
		for k, c := range l {
			if a := w.threads.Got[i][k]; a != lost && c.op != length {
				calls[i], got[i] = append(calls[i], c), append(got[i], a)
			}
		}
	}
	end := w.of.plain(w.there()...)
	return aid.Explained(calls, got, w.of.plain(w.had...), does, func(s plain) bool { return s == end })
}

// owned: an owner's calls, and those of so many thieves.
func owned(r *rand.Rand, thieves int, v func() int64) [][]call {
	calls := make([][]call, 1+thieves)
	ops := aid.Some(r.Intn, [][]int{{push, pop}, {push, push, pop}, {push, pop, pop}, {push, push, pop, pop, steal, length}})
	for range r.Intn(9) {
		calls[0] = append(calls[0], call{op: aid.Some(r.Intn, ops), v: v()})
	}
	for i := range thieves {
		for range r.Intn(6) {
			calls[1+i] = append(calls[1+i], call{op: aid.Some(r.Intn, []int{steal, steal, steal, steal, length})})
		}
	}
	return calls
}

// disowned: calls of so many threads, of which each does what it likes.
func disowned(r *rand.Rand, threads int) [][]call {
	calls := make([][]call, threads)
	for i := range calls {
		for range r.Intn(9) {
			calls[i] = append(calls[i], call{op: aid.Some(r.Intn, []int{push, push, pop, steal, length}), v: aid.Some(r.Intn, aid.Values())})
		}
	}
	return calls
}

// TestRuns: random threads under random picks, and again: with one owner, and with several.
func TestRuns(t *testing.T) {
	const enough = 5000
	ended, met := map[int8]int{}, map[string]int{}
	for seed := range int64(6000) {
		r := rand.New(rand.NewSource(seed))
		of := size{2 << r.Intn(2), aid.Some(r.Intn, aid.Positions())}
		v, first := aid.Some(r.Intn, aid.Values())-10, slices.Repeat([]call{pushes(-1), steals}, r.Intn(3))
		next := func() int64 {
			v++
			return v
		}
		for range r.Intn(of.n + 1) {
			first = append(first, pushes(next()))
		}
		calls := owned(r, r.Intn(5), next)
		if seed%4 == 0 {
			calls = disowned(r, 2+r.Intn(4))
		}
		most := []int{0, 9, 30, enough, enough, enough}[r.Intn(6)]
		w := newWorld(of, first, calls)
		report := w.run(t, aid.Picks(r.Intn, 60), most)
		if most == enough && report.End != api.Over {
			t.Errorf("R1: %d turns are not enough", most)
		}
		if w.owned && report.End == api.Over && !w.inOrder() {
			t.Errorf("what follows: no order of the calls answers so: %+v", w.threads.Got)
		}
		second, e, _ := gate.Again(report.Went, newWorld(of, first, calls).threads.Bodies()...)
		if e != api.OK || !aid.Same(second, report) {
			t.Errorf("W7: %d: %+v, not %+v", e, second, report)
		}
		if t.Failed() {
			t.Fatalf("seed %d: %+v behind %+v: %+v: %s", seed, of, first, calls, aid.Texts(report.Log))
		}
		ended[report.End]++
		for _, d := range w.did {
			if d.Last < len(report.Log) {
				met[d.kind(report.Log)]++
			}
		}
	}
	if ended[api.Over] < 3000 || ended[api.Cut] < 1000 {
		t.Errorf("the threads are no good: %v", ended)
	}
	for _, what := range []string{"pushed", "full", "popped", "popped the last", "forestalled", "nothing to pop", "stolen", "lost", "nothing to steal", "length -1"} {
		if met[what] < 200 {
			t.Errorf("the threads are no good: %v", met)
		}
	}
}

// kind: how a call that ended did.
func (d *did) kind(log []api.Access) string {
	cas := slices.ContainsFunc(log[d.First:d.Last], func(a api.Access) bool { return a.Op == api.OpCas && a.Thread == log[d.First].Thread })
	switch {
	case d.call.op == length && d.answer == long(-1):
		return "length -1"
	case d.call.op == length:
		return "length"
	case d.call.op == push:
		return map[answer]string{okay: "pushed", full: "full"}[d.answer]
	case d.answer == lost:
		return "lost"
	case d.call.op == steal:
		return map[bool]string{true: "stolen", false: "nothing to steal"}[d.answer.got()]
	case cas:
		return map[bool]string{true: "popped the last", false: "forestalled"}[d.answer.got()]
	}
	return map[bool]string{true: "popped", false: "nothing to pop"}[d.answer.got()]
}

// TestEverySchedule: small threads under all schedules.
func TestEverySchedule(t *testing.T) {
	const most = math.MaxInt64
	one, two := []call{pushes(1)}, []call{pushes(1), pushes(2)}
	for _, row := range []struct {
		of    size
		first []call
		calls [][]call
		runs  int // so many schedules there are
		lost  int // in so many of them a Steal is Lost
		no    int // in so many a Pop gets nothing
	}{
		{size{2, 0}, one, [][]call{{pops}, {steals}}, 95, 40, 35},
		{size{2, 0}, two, [][]call{{pops}, {steals}}, 70, 0, 0},
		{size{2, 0}, two, [][]call{{}, {steals}, {steals}}, 70, 68, 0},
		{size{2, 0}, nil, [][]call{{pushes(7)}, {steals}}, 15, 0, 0},
		{size{2, 0}, nil, [][]call{{pops}, {steals}}, 15, 0, 15},
		{size{2, 0}, two, [][]call{{pushes(7)}, {steals}}, 15, 0, 0},
		{size{4, -2}, two, [][]call{{pushes(7)}, {steals}}, 70, 0, 0},
		{size{2, most}, one, [][]call{{pops}, {steals}, {steals}}, 39404, 36012, 23460},
		{size{2, most}, two, [][]call{{pops, pops}, {steals}}, 766, 310, 420},
		{size{2, most}, two, [][]call{{pops, pops}, {steals, steals}}, 6820, 2283, 5959},
		{size{2, most}, one, [][]call{{pops, pushes(7)}, {steals}}, 389, 316, 35},
		{size{2, most - 1}, one, [][]call{{pops, pushes(7), pops}, {steals}}, 2252, 1985, 195},
		{size{2, most - 1}, two, [][]call{{pushes(7), pushes(8)}, {steals, steals}}, 2149, 0, 0},
		{size{2, -1}, nil, [][]call{{pushes(7), pops}, {steals}}, 321, 140, 135},
		{size{2, -1}, nil, [][]call{{pushes(7), pushes(8), pops}, {steals}}, 1165, 0, 0},
		{size{2, -1}, one, [][]call{{pops}, {steals}, {lengths}}, 5598, 2640, 2058},
		{size{2, 0}, one, [][]call{{pops}, {pops}}, 604, 0, 604},
		{size{2, 0}, two, [][]call{{pops}, {pops}}, 100, 0, 0},
		{size{2, 0}, one, [][]call{{pushes(7)}, {pushes(8)}}, 70, 0, 0},
	} {
		lost, no := 0, 0
		runs := aid.Every(60, func(picks []int) []int {
			w := newWorld(row.of, row.first, row.calls)
			r := w.run(t, picks, len(picks))
			if w.owned && !w.inOrder() {
				t.Errorf("what follows: no order of the calls answers so: %+v", w.threads.Got)
			}
			if t.Failed() || r.End != api.Over {
				t.Fatalf("%+v, %+v: %v: %s", row.of, row.calls, picks, aid.Texts(r.Log))
			}
			if slices.ContainsFunc(w.did, func(d *did) bool { return d.kind(r.Log) == "lost" }) {
				lost++
			}
			if slices.ContainsFunc(w.did, func(d *did) bool { return d.call.op == pop && !d.answer.ok }) {
				no++
			}
			return r.Ready
		})
		if runs != row.runs || lost != row.lost || no != row.no {
			t.Errorf("%+v behind %+v, %+v: %d schedules, in %d a Steal is lost, in %d a Pop gets nothing", row.of, row.first, row.calls, runs, lost, no)
		}
	}
}
