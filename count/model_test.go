package count_test

import (
	"math"
	"math/rand"
	"slices"
	"testing"

	"treadle/aid"
	"treadle/api"
	"treadle/gate"
)

// The chapter's steps once more, along records: what a run tells and answers is held against them.

// steps: of a call of things of this size. The stripes are the first cells, behind them are the peak and the tickets.
func (m size) steps(s *aid.Steps, c call) (a answer) {
	switch c.op {
	case add:
		s.Add(stripeOf(c.who, m.stripes), c.n)
	case sum:
		for stripe := range m.stripes {
			a.n += s.Load(stripe)
		}
	case raise:
		a.ok = m.stepsOfRaise(s, c.n)
	case top:
		a.n = s.Load(m.stripes)
	case take:
		a.ok = m.stepsOfTake(s)
	case back:
		a.e = m.stepsOfBack(s)
	case left:
		a.n = s.Load(m.stripes + 1)
	}
	return a
}

func (m size) stepsOfRaise(s *aid.Steps, v int64) bool {
	for {
		x := s.Load(m.stripes)
		if x >= v {
			return false
		}
		if s.Cas(m.stripes, x, v) {
			return true
		}
	}
}

func (m size) stepsOfTake(s *aid.Steps) bool {
	for {
		x := s.Load(m.stripes + 1)
		if x == 0 {
			return false
		}
		if s.Cas(m.stripes+1, x, x-1) {
			return true
		}
	}
}

func (m size) stepsOfBack(s *aid.Steps) api.Errno {
	for {
		x := s.Load(m.stripes + 1)
		if x == m.tickets {
			return api.ErrArg
		}
		if s.Cas(m.stripes+1, x, x+1) {
			return api.OK
		}
	}
}

// world: threads that call things, and what comes of them.
type world struct {
	of      size
	threads aid.Scripts[call, answer]
	x       things
	s       state // what they hold, by the words and by the calls that are answered
	faults  []string
}

func newWorld(of size, calls [][]call) *world {
	w := &world{of: of, x: of.things(), s: of.state()}
	w.threads = aid.Scripts[call, answer]{Calls: calls, Do: w.do, Steps: of.steps}
	return w
}

// do makes a call; what follows is seen here: each but Sum is done by its last access, behind which nothing moves till it is answered.
func (w *world) do(t *gate.Thread, c call) answer {
	ahead := w.s.added
	a := w.x.do(t, c)
	next, want := does(w.s, c)
	w.s = next
	if c.op != sum && a != want {
		w.faults = append(w.faults, "an answer is not what follows")
	}
	if c.op == sum && w.rises() && (a.n < ahead || a.n > w.s.added) {
		w.faults = append(w.faults, "a sum is not between what was added")
	}
	return a
}

// rises: whether nothing below 0 is added, and nothing goes round.
func (w *world) rises() bool {
	all := int64(0)
	for _, c := range slices.Concat(w.threads.Calls...) {
		if c.op == add && (c.n < 0 || c.n > math.MaxInt64-all) {
			return false
		}
		if c.op == add {
			all += c.n
		}
	}
	return true
}

// run plays the threads, and holds what comes of it against the steps, the words, and what follows.
func (w *world) run(t *testing.T, picks []int, most int) api.Report {
	t.Helper()
	r := gate.Run(picks, most, w.threads.Bodies()...)
	ends, faults := w.threads.Ends(r, map[int]int64{w.of.stripes: w.of.peak, w.of.stripes + 1: w.of.tickets})
	for _, f := range append(faults, w.faults...) {
		t.Errorf("W1, what follows: %s", f)
	}
	stripes, all := held(w.x.counter)
	for i, n := range stripes {
		if n != ends[i] {
			t.Errorf("P4.1: the stripe %d holds %d, by the record %d", i, n, ends[i])
		}
	}
	behind := state{all, w.x.peak.Top(nil), w.x.tickets.Left(nil), w.of.tickets}
	if behind != w.s || behind.peak != ends[w.of.stripes] || behind.left != ends[w.of.stripes+1] {
		t.Errorf("what follows: in the end it is %+v, by what was answered %+v, by the record %v", behind, w.s, ends)
	}
	if r.End == api.Dead || r.End == api.Cut && r.Turns < most || len(r.Fell) != 0 {
		t.Errorf("R1: %+v", r)
	}
	return r
}

// TestRuns: random threads under random picks, and again.
func TestRuns(t *testing.T) {
	over, cas := 0, map[bool]int{}
	for seed := range int64(6000) {
		r := rand.New(rand.NewSource(seed))
		values := [][]int64{aid.Values(), {0, 1, 2, 3, 4, 5}}[r.Intn(2)]
		of := size{1 + r.Intn(4), values[r.Intn(4)], int64(r.Intn(3))}
		calls := make([][]call, 1+r.Intn(5))
		for i := range calls {
			for range r.Intn(9) {
				calls[i] = append(calls[i], someCall(r, values))
			}
		}
		most := []int{0, 9, 5000, 5000}[r.Intn(4)]
		w := newWorld(of, calls)
		report := w.run(t, aid.Picks(r.Intn, 40), most)
		if most == 5000 && report.End != api.Over {
			t.Errorf("R1: %d turns are not enough", most)
		}
		second, e, _ := gate.Again(report.Went, newWorld(of, calls).threads.Bodies()...)
		if e != api.OK || !aid.Same(second, report) {
			t.Errorf("W7: %d: %+v, not %+v", e, second, report)
		}
		if t.Failed() {
			t.Fatalf("seed %d: %+v, %+v: %s", seed, of, calls, aid.Texts(report.Log))
		}
		if report.End == api.Over {
			over++
		}
		for _, a := range report.Log {
			if a.Op == api.OpCas {
				cas[a.Ok]++
			}
		}
	}
	if over < 3000 || cas[true] < 5000 || cas[false] < 500 {
		t.Errorf("the threads are no good: %d, %v", over, cas)
	}
}

// TestEverySchedule: small threads under all schedules.
func TestEverySchedule(t *testing.T) {
	adds := func(who int) call { return call{op: add, who: who, n: 1} }
	raises := func(n int64) call { return call{op: raise, n: n} }
	for _, row := range []struct {
		of    size
		calls [][]call
		runs  int // so many schedules there are
	}{
		{size{stripes: 2}, [][]call{{adds(0)}, {adds(1)}, {{op: sum}}}, 12},
		{size{stripes: 3}, [][]call{{adds(0), adds(2)}, {adds(1)}, {{op: sum}}}, 60},
		{size{stripes: 1}, [][]call{{adds(0), {op: sum}}, {adds(-1), {op: sum}}}, 6},
		{size{stripes: 1}, [][]call{{raises(5)}, {raises(3)}}, 6},
		{size{stripes: 1}, [][]call{{raises(2), {op: top}}, {raises(1)}, {raises(3)}}, 945},
		{size{stripes: 1, tickets: 1}, [][]call{{{op: take}}, {{op: take}}}, 6},
		{size{stripes: 1, tickets: 1}, [][]call{{{op: take}, {op: back}}, {{op: take}, {op: back}}}, 80},
		{size{stripes: 1, tickets: 2}, [][]call{{{op: take}, {op: left}}, {{op: back}}, {{op: take}}}, 272},
		{size{stripes: 1, tickets: 2}, [][]call{{{op: take}, {op: back}}, {{op: take}, {op: take}}}, 128},
	} {
		runs := aid.Every(60, func(picks []int) []int {
			r := newWorld(row.of, row.calls).run(t, picks, len(picks))
			if t.Failed() || r.End == api.Cut {
				t.Fatalf("%+v, %+v: %v: %s", row.of, row.calls, picks, aid.Texts(r.Log))
			}
			return r.Ready
		})
		if runs != row.runs {
			t.Errorf("%+v, %+v: %d schedules", row.of, row.calls, runs)
		}
	}
}
