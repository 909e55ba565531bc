package stack_test

import (
	"math/rand"
	"slices"
	"testing"

	"treadle/aid"
	"treadle/api"
	"treadle/gate"
	"treadle/stack"
)

// The chapter's steps once more, along records: what a run tells and answers is held against them.

const (
	usedCell  = iota // of the stack's list
	freeCell         // of the free nodes'
	nodeCells        // from here on: of each node its next and its value
)

func nextOf(k int64) int  { return nodeCells + 2*int(k-1) }
func valueOf(k int64) int { return nodeCells + 2*int(k-1) + 1 }

// nodeOf: the node of what a list's cell holds.
func nodeOf(h int64) int64 { return (h%65536 + 65536) % 65536 }

// inPlaceOf: what a list's cell holds behind it, with m on top.
func inPlaceOf(h, m int64) int64 { return h - nodeOf(h) + m + 65536 }

// held: what the cells hold at first.
func (m size) held() map[int]int64 {
	l := map[int]int64{usedCell: m.tag * 65536, freeCell: m.tag*65536 + 1}
	for k := int64(1); k <= int64(m.n); k++ {
		l[nextOf(k)], l[valueOf(k)] = k+1, 0
	}
	l[nextOf(int64(m.n))] = 0
	return l
}

// did: a call along a record: where it is there, which node it got and laid, and where.
type did struct {
	aid.Span
	call      call
	answer    answer
	node      int64 // 0: none
	got, laid int   // the places of the accesses by which it did; -1: none
	vain      []int // the places of those by which it did not
}

// steps: of a call.
func (d *did) steps(s *aid.Steps) {
	if d.call.op == push {
		if d.gets(s, freeCell); d.node == 0 {
			d.answer = full
			return
		}
		s.Store(valueOf(d.node), d.call.v)
		d.lays(s, usedCell)
		return
	}
	if d.gets(s, usedCell); d.node == 0 {
		return
	}
	v := s.Load(valueOf(d.node))
	d.lays(s, freeCell)
	d.answer = popped(v)
}

func (d *did) gets(s *aid.Steps, list int) {
	for {
		h := s.Load(list)
		k := nodeOf(h)
		if k == 0 {
			return
		}
		below := s.Load(nextOf(k))
		if at, ok := d.turns(s, list, h, inPlaceOf(h, below)); ok {
			d.node, d.got = k, at
			return
		}
	}
}

func (d *did) lays(s *aid.Steps, list int) {
	for {
		h := s.Load(list)
		s.Store(nextOf(d.node), nodeOf(h))
		if at, ok := d.turns(s, list, h, inPlaceOf(h, d.node)); ok {
			d.laid = at
			return
		}
	}
}

// turns: the place of an access by which a list is to be changed, and whether it is.
func (d *did) turns(s *aid.Steps, list int, from, to int64) (int, bool) {
	var at aid.Span
	ok := false
	s.Span(&at, func() { ok = s.Cas(list, from, to) })
	if !ok {
		d.vain = append(d.vain, at.First)
	}
	return at.First, ok
}

// world: threads that call a stack, and what comes of them.
type world struct {
	of      size
	x       *stack.Stack
	held    map[int]int64 // what the cells hold ahead of the run
	threads aid.Scripts[call, answer]
	did     []*did // those that began, along the record
}

// newWorld: of a stack that one thread made the first calls of.
func newWorld(of size, first []call, calls [][]call) *world {
	x := of.stack()
	ahead := of.world(x, of.held(), [][]call{first})
	held, _ := ahead.threads.Ends(gate.Run(nil, api.MaxTurns, ahead.threads.Bodies()...), of.held())
	return of.world(x, held, calls)
}

func (m size) world(x *stack.Stack, held map[int]int64, calls [][]call) *world {
	w := &world{of: m, x: x, held: held}
	w.threads = aid.Scripts[call, answer]{Calls: calls, Do: func(t *gate.Thread, c call) answer { return do(x, t, c) }, Steps: w.steps}
	return w
}

func (w *world) steps(s *aid.Steps, c call) answer {
	d := &did{call: c, got: -1, laid: -1}
	w.did = append(w.did, d)
	s.Span(&d.Span, func() { d.steps(s) })
	return d.answer
}

// run plays the threads, and holds what comes of it against the steps, and what follows.
func (w *world) run(t *testing.T, picks []int, most int) api.Report {
	t.Helper()
	r := gate.Run(picks, most, w.threads.Bodies()...)
	ends, faults := w.threads.Ends(r, w.held)
	if r.End == api.Dead || r.End == api.Cut && r.Turns < most || len(r.Fell) != 0 {
		t.Errorf("R1, W3: %+v", r)
	}
	faults = append(faults, w.follows(len(r.Log), ends)...)
	had, there := values(w.held), values(ends)
	if r.End == api.Over && !w.inOrder(had, there) {
		t.Errorf("what follows: no order of the calls answers so, where %v are there first and %v in the end: %+v", had, there, w.threads.Got)
	}
	around := goesAround(w.of.n)
	behind := w.of.world(w.x, ends, [][]call{around})
	last := gate.Run(nil, api.MaxTurns, behind.threads.Bodies()...)
	if _, l := behind.threads.Ends(last, ends); len(l) > 0 {
		faults = append(append(faults, "the cells hold what the record does not say"), l...)
	}
	if r.End == api.Over && !asPlain(w.of.plain(there...), around, behind.threads.Got[0]) {
		t.Errorf("what follows: %v were pushed and not popped: %v", there, behind.threads.Got[0])
	}
	for _, f := range faults {
		t.Errorf("W1, what follows: %s", f)
	}
	return r
}

// nodes: which nodes are on the stack's list, and which are free, each by the cells, the lowest first.
func nodes(held map[int]int64) (l [2][]int64) {
	for list := range l {
		for k := nodeOf(held[list]); k != 0 && len(l[list]) <= api.MaxNodes; k = held[nextOf(k)] {
			l[list] = append(l[list], k)
		}
		slices.Reverse(l[list])
	}
	return l
}

// values: those that are there, by the cells, in the order in which they were pushed.
func values(held map[int]int64) (l []int64) {
	for _, k := range nodes(held)[usedCell] {
		l = append(l, held[valueOf(k)])
	}
	return l
}

// follows: what does not, of that what the chapter says follows: by the changes of the lists, in their order.
func (w *world) follows(log int, ends map[int]int64) (faults []string) {
	fault := func(is bool, what string) {
		if is {
			faults = append(faults, what)
		}
	}
	begun, hands := map[int]*did{}, map[int64]*did{} // who makes a change at a place of the log; in whose hands a node is
	for _, d := range w.did {
		begun[d.got], begun[d.laid] = d, d
	}
	lists, had := nodes(w.held), make([]int, log) // how many values are there ahead of each access
	for at := range log {
		had[at] = len(lists[usedCell])
		d := begun[at]
		if d == nil {
			continue
		}
		from, to := usedCell, freeCell
		if d.call.op == push {
			from, to = to, from
		}
		if at == d.laid {
			fault(hands[d.node] != d, "a node is laid that is in another's hands")
			lists[to] = append(lists[to], d.node)
			delete(hands, d.node)
			continue
		}
		top := len(lists[from]) - 1
		if top < 0 || lists[from][top] != d.node || hands[d.node] != nil {
			return append(faults, "a node is got that is not on top")
		}
		lists[from] = lists[from][:top]
		hands[d.node] = d
	}
	last := nodes(ends)
	fault(!slices.Equal(last[usedCell], lists[usedCell]) || !slices.Equal(last[freeCell], lists[freeCell]), "a list has not the nodes that were laid on it")
	fault(len(hands)+len(lists[usedCell])+len(lists[freeCell]) > w.of.n, "a node is in two places")
	for _, d := range w.did {
		if d.Last < log && w.isAlone(d) {
			_, want := does(w.of.plain(make([]int64, had[d.First])...), d.call)
			fault(d.answer.e != want.e || d.answer.ok != want.ok, "with nobody in the midst of a call it is not answered as if alone")
		}
	}
	return faults
}

// isAlone: whether nobody is in the midst of another call from this one's first access to its last.
func (w *world) isAlone(d *did) bool {
	return !slices.ContainsFunc(w.did, func(o *did) bool { return o != d && o.First <= d.Last && o.Last >= d.First })
}

// inOrder: whether there is an order of all calls that were not refused in which one alone would be answered so, and would leave what is there.
func (w *world) inOrder(had, there []int64) bool {
	calls, got := make([][]call, len(w.threads.Calls)), make([][]answer, len(w.threads.Calls))
	for i, l := range w.threads.Calls {
		for k, c := range l {
			if a := w.threads.Got[i][k]; a != full {
				calls[i], got[i] = append(calls[i], c), append(got[i], a)
			}
		}
	}
	end := w.of.plain(there...)
	return aid.Explained(calls, got, w.of.plain(had...), does, func(s plain) bool { return s == end })
}

// sameNode: whether at a place of the log a change is vain, though the node that was on top is there again, with another tag.
func (d *did) sameNode(log []api.Access) func(at int) bool {
	return func(at int) bool {
		node := nodeOf(log[at].Arg)
		return node != 0 && nodeOf(log[at].Was) == node
	}
}

// counts what was met in a run.
func (w *world) counts(r api.Report, met map[string]int) {
	for _, d := range w.did {
		for _, at := range d.vain {
			met[map[bool]string{true: "forestalled as it gets", false: "forestalled as it lays"}[d.got < 0 || at < d.got]]++
			if d.sameNode(r.Log)(at) {
				met["the same node is on top again"]++
			}
		}
		switch {
		case d.Last >= len(r.Log):
			if d.got >= 0 && d.laid < 0 {
				met["in hands at the end"]++
			}
		case d.answer == full && !w.isAlone(d):
			met["full, perhaps because of others' hands"]++
		default:
			met[[]string{"Push: ", "Pop: "}[d.call.op]+map[bool]string{true: "done", false: "refused"}[d.laid >= 0]]++
		}
	}
}

// TestRuns: random threads under random picks, and again.
func TestRuns(t *testing.T) {
	const enough = 5000
	ended, met := map[int8]int{}, map[string]int{}
	for seed := range int64(6000) {
		r := rand.New(rand.NewSource(seed))
		of := size{1 + r.Intn(4), aid.Some(r.Intn, tags())}
		first, calls := someCalls(r, of.n)
		most := []int{0, 9, 30, enough, enough, enough}[r.Intn(6)]
		w := newWorld(of, first, calls)
		picks := aid.Mixed(seed, r.Intn, 60, []int{1, 2, 3, 6, 7, 14, 21, 28})
		report := w.run(t, picks, most)
		if most == enough && report.End != api.Over {
			t.Errorf("R1: %d turns are not enough", most)
		}
		second, e, _ := gate.Again(report.Went, newWorld(of, first, calls).threads.Bodies()...)
		if e != api.OK || !aid.Same(second, report) {
			t.Errorf("W7: %d: %+v, not %+v", e, second, report)
		}
		if t.Failed() {
			t.Fatalf("seed %d: %+v behind %+v: %+v: %s", seed, of, first, calls, aid.Texts(report.Log))
		}
		ended[report.End]++
		w.counts(report, met)
	}
	if ended[api.Over] < 3000 || ended[api.Cut] < 1000 {
		t.Errorf("the threads are no good: %v", ended)
	}
	for _, what := range []string{"Push: done", "Push: refused", "Pop: done", "Pop: refused", "full, perhaps because of others' hands", "forestalled as it gets", "forestalled as it lays", "the same node is on top again", "in hands at the end"} {
		if met[what] < 100 {
			t.Errorf("the threads are no good: %v", met)
		}
	}
}

// someCalls: those that one thread makes of a stack of n nodes ahead of a run, so that its nodes come to lie as they may; and those of some threads.
func someCalls(r *rand.Rand, n int) (first []call, calls [][]call) {
	some := func(most int, ops []int) (l []call) {
		for range r.Intn(most + 1) {
			l = append(l, call{op: aid.Some(r.Intn, ops), v: aid.Some(r.Intn, aid.Values())})
		}
		return l
	}
	first = some(3*n, aid.Some(r.Intn, [][]int{{push, push, pop}, {push}}))
	ops := aid.Some(r.Intn, [][]int{{push, pop}, {push, pop}, {push, push, pop}, {push, pop, pop}})
	for range 1 + r.Intn(5) {
		calls = append(calls, some(8, ops))
	}
	return first, calls
}

// TestEverySchedule: small threads under all schedules.
func TestEverySchedule(t *testing.T) {
	one, two := []call{pushes(1)}, []call{pushes(1), pushes(2)}
	for _, row := range []struct {
		of     size
		first  []call
		calls  [][]call
		runs   int // so many schedules there are
		fails  int // in so many of them a Push or a Pop is refused
		vainly int // in so many somebody is forestalled
		again  int // in so many by the same node
	}{
		{size{1, 0}, nil, [][]call{{pushes(7)}, {pushes(8)}}, 400, 400, 390, 0},
		{size{1, 0}, nil, [][]call{{pushes(7)}, {pops}}, 8, 7, 0, 0},
		{size{1, lastTag}, one, [][]call{{pushes(7)}, {pops}}, 8, 7, 0, 0},
		{size{1, 0}, one, [][]call{{pops}, {pops}}, 400, 400, 390, 0},
		{size{2, 0}, nil, [][]call{{pushes(7)}, {pushes(8)}}, 10890, 0, 10734, 0},
		{size{2, lastTag}, one, [][]call{{pushes(7)}, {pops}}, 11734, 0, 9282, 0},
		{size{2, 0}, two, [][]call{{pops}, {pops}}, 10890, 0, 10734, 0},
		{size{2, 0}, two, [][]call{{pushes(7)}, {pops}}, 8, 7, 0, 0},
		{size{1, 0}, nil, [][]call{{pushes(7)}, {pushes(8), pops}}, 2007, 1700, 1980, 42},
		{size{1, -1}, one, [][]call{{pops}, {pops, pushes(7)}}, 2007, 1700, 1980, 42},
		{size{1, 0}, nil, [][]call{{pushes(7)}, {pops}, {pops}}, 470, 470, 390, 0},
		{size{1, lastTag}, one, [][]call{{pops}, {pops}, {pushes(7)}}, 7314, 6700, 7212, 84},
	} {
		fails, vainly, again := 0, 0, 0
		runs := aid.Every(60, func(picks []int) []int {
			w := newWorld(row.of, row.first, row.calls)
			r := w.run(t, picks, len(picks))
			if t.Failed() || r.End != api.Over {
				t.Fatalf("%+v, %+v: %v: %s", row.of, row.calls, picks, aid.Texts(r.Log))
			}
			if slices.ContainsFunc(w.did, func(d *did) bool { return d.laid < 0 }) {
				fails++
			}
			if slices.ContainsFunc(w.did, func(d *did) bool { return len(d.vain) > 0 }) {
				vainly++
			}
			if slices.ContainsFunc(w.did, func(d *did) bool { return slices.ContainsFunc(d.vain, d.sameNode(r.Log)) }) {
				again++
			}
			return r.Ready
		})
		if runs != row.runs || fails != row.fails || vainly != row.vainly || again != row.again {
			t.Errorf("%+v behind %+v, %+v: %d schedules, in %d one is refused, in %d forestalled, in %d by the same node", row.of, row.first, row.calls, runs, fails, vainly, again)
		}
	}
}
