package latch_test

import (
	"math/rand"
	"slices"
	"testing"
	"testing/synctest"

	"treadle/aid"
	"treadle/api"
	"treadle/gate"
)

// The chapter's steps once more, along records: what a run tells and answers is held against them.

const (
	latchCell = iota
	lockCell
	roundCell
	countCell
)

// steps: of a call of things of which the barrier is of so many.
func (m size) steps(s *aid.Steps, c call) (a answer) {
	switch c.op {
	case down:
		a.e = stepsOfDown(s, c.n)
	case wait:
		for x := s.Load(latchCell); x != 0; x = s.Load(latchCell) {
			s.Park(latchCell, x)
		}
	case left:
		a.n = s.Load(latchCell)
	case lock:
		stepsOfLock(s)
	case try:
		a.ok = s.Cas(lockCell, 0, 1)
	case unlock:
		if s.Swap(lockCell, 0) == 0 {
			a.e = api.ErrState
		}
	case arrive:
		return m.stepsOfArrive(s)
	case visit:
		if a.ok = s.Cas(lockCell, 0, 1); a.ok {
			s.Load(latchCell)
			s.Swap(lockCell, 0)
		}
	}
	return a
}

func stepsOfDown(s *aid.Steps, k int64) api.Errno {
	if k < 1 {
		return api.ErrArg
	}
	for {
		x := s.Load(latchCell)
		if k > x {
			return api.ErrArg
		}
		if s.Cas(latchCell, x, x-k) {
			return api.OK
		}
	}
}

func stepsOfLock(s *aid.Steps) {
	if s.Cas(lockCell, 0, 1) {
		return
	}
	for s.Swap(lockCell, 2) != 0 {
		s.Park(lockCell, 2)
	}
}

func (m size) stepsOfArrive(s *aid.Steps) answer {
	r := s.Load(roundCell)
	if s.Add(countCell, 1) == m.barrier {
		s.Store(countCell, 0)
		s.Add(roundCell, 1)
		return answer{n: r, ok: true}
	}
	s.Park(roundCell, r)
	return answer{n: r}
}

// world: threads that call things, and what comes of them.
type world struct {
	of      size
	threads aid.Scripts[call, answer]
	x       things
	s       state // what latch and lock are, by the words and by the calls that are answered
	begun   []int // of each thread: how many of its Arrives
	round   int64 // so many lasts were told
	faults  []string
}

func newWorld(of size, calls [][]call) *world {
	w := &world{of: of, x: of.things(), s: of.state(), begun: make([]int, len(calls))}
	w.threads = aid.Scripts[call, answer]{Calls: calls, Do: w.do, Steps: of.steps}
	return w
}

// do makes a call; what follows is seen here: each is answered by its last access, behind which nothing moves till then.
func (w *world) do(t *gate.Thread, c call) answer {
	switch c.op {
	case visit:
		a := w.do(t, call{op: try})
		if a.ok {
			w.do(t, call{op: left})
			w.do(t, call{op: unlock})
		}
		return a
	case arrive:
		w.begun[t.Number()]++
		a := w.x.do(t, c)
		w.arrived(t.Number(), a)
		return a
	}
	a := w.x.do(t, c)
	next, want := does(w.s, c)
	w.s = next
	if a != want {
		w.faults = append(w.faults, "an answer is not what follows")
	}
	return a
}

// arrived: an Arrive of this thread was answered; where just as many go through the barrier as it is of, it tells the thread's own rounds.
func (w *world) arrived(thread int, a answer) {
	arrivers := w.arrivers()
	fault := func(is bool, what string) {
		if is {
			w.faults = append(w.faults, what)
		}
	}
	fault(a.e != api.OK, "a barrier refuses")
	fault(len(arrivers) < int(w.of.barrier), "a barrier opens by too few")
	if len(arrivers) != int(w.of.barrier) {
		return
	}
	fault(a.n != int64(w.begun[thread])-1, "a round is skipped, or gone through twice")
	fault(a.ok && a.n != w.round, "a round has two last, or none")
	if a.ok {
		w.round++
	}
	fault(a.n >= w.round, "somebody is let go ahead of the last one's coming")
	for _, i := range arrivers {
		fault(int64(w.begun[i]) <= a.n, "somebody is let go ahead of another one's coming")
	}
}

// arrivers: the threads that go through the barrier.
func (w *world) arrivers() []int {
	var l []int
	for i, calls := range w.threads.Calls {
		if slices.ContainsFunc(calls, func(c call) bool { return c.op == arrive }) {
			l = append(l, i)
		}
	}
	return l
}

// run plays the threads, and holds what comes of it against the steps, the words, and what follows.
func (w *world) run(t *testing.T, picks []int, most int) api.Report {
	t.Helper()
	r := gate.Run(picks, most, w.threads.Bodies()...)
	ends, faults := w.threads.Ends(r, map[int]int64{latchCell: w.of.latch})
	for _, f := range append(faults, w.faults...) {
		t.Errorf("W1, W3, what follows: %s", f)
	}
	held := w.x.inside()
	if held != [4]int64{ends[latchCell], ends[lockCell], ends[roundCell], ends[countCell]} {
		t.Errorf("P5.1 to P5.3: the cells hold %v, by the record %v", held, ends)
	}
	if held[0] != w.s.left || held[0] < 0 || held[0] > w.of.latch || held[1] < 0 || held[1] > 2 || held[1] != 0 != w.s.taken {
		t.Errorf("what follows: the cells hold %v, by what was answered it is %+v", held, w.s)
	}
	if r.End == api.Cut && r.Turns < most || len(r.Fell) != 0 {
		t.Errorf("R1: %+v", r)
	}
	return r
}

// wild: calls of whatever kind; some never end.
func wild(r *rand.Rand) (size, [][]call) {
	values := [][]int64{aid.Values(), {0, 1, 1, 2, 3}}[r.Intn(2)]
	of := size{max(values[r.Intn(len(values))], 0), 1 + int64(r.Intn(4))}
	calls := make([][]call, 1+r.Intn(5))
	for i := range calls {
		for range r.Intn(9) {
			calls[i] = append(calls[i], someCall(r, values))
		}
	}
	return of, calls
}

// kept: threads none of which waits for what he, or one who waits for him, is to bring: who has the lock does not sleep and unlocks it, all go through the barrier equally often, and then the latch comes to 0 by those who do not wait yet.
func kept(r *rand.Rand) (size, [][]call) {
	hands, rounds := 1+r.Intn(4), r.Intn(4)
	calls, all := make([][]call, hands), int64(0)
	for i := range calls {
		for range rounds {
			calls[i] = append(calls[i], holds(r)...)
			calls[i] = append(calls[i], call{op: arrive})
		}
	}
	for i := range calls {
		calls[i] = append(calls[i], holds(r)...)
		for range r.Intn(3) {
			k := 1 + int64(r.Intn(3))
			calls[i] = append(calls[i], call{op: down, n: k})
			all += k
		}
		calls[i] = append(calls[i], call{op: wait})
		calls[i] = append(calls[i], holds(r)...)
	}
	return size{all, int64(hands)}, calls
}

// holds: the lock is held a few times.
func holds(r *rand.Rand) []call {
	var l []call
	for range r.Intn(3) {
		switch r.Intn(3) {
		case 0:
			l = append(l, call{op: visit})
		case 1:
			l = append(l, call{op: lock}, call{op: unlock})
		default:
			l = append(l, call{op: lock}, call{op: left}, call{op: try}, call{op: unlock})
		}
	}
	return l
}

// TestRuns: random threads under random picks, and again.
func TestRuns(t *testing.T) { synctest.Test(t, runs) }

func runs(t *testing.T) {
	const enough = 5000
	ended, met := map[int8]int{}, map[int8]int{}
	for seed := range int64(6000) {
		r := rand.New(rand.NewSource(seed))
		good := seed%2 == 0
		threads := wild
		if good {
			threads = kept
		}
		of, calls := threads(r)
		most := []int{0, 9, enough, enough}[r.Intn(4)]
		w := newWorld(of, calls)
		report := w.run(t, aid.Picks(r.Intn, 40), most)
		if most == enough && report.End == api.Cut || good && report.End == api.Dead {
			t.Errorf("R1, W3: it ends %d", report.End)
		}
		if good && report.End == api.Over && w.s.left != 0 {
			t.Errorf("what follows: %d are left", w.s.left)
		}
		second, e, _ := gate.Again(report.Went, newWorld(of, calls).threads.Bodies()...)
		if e != api.OK || !aid.Same(second, report) {
			t.Errorf("W7: %d: %+v, not %+v", e, second, report)
		}
		if t.Failed() {
			t.Fatalf("seed %d: %+v, %+v: %s", seed, of, calls, aid.Texts(report.Log))
		}
		ended[report.End]++
		for _, a := range report.Log {
			met[a.Op]++
		}
	}
	if ended[api.Over] < 1500 || ended[api.Dead] < 500 || ended[api.Cut] < 500 || met[api.OpPark] < 3000 || met[api.OpStore] < 1000 {
		t.Errorf("the threads are no good: %v, %v", ended, met)
	}
}

// TestEverySchedule: small threads under all schedules. Where all wait for what others bring, none ends dead.
func TestEverySchedule(t *testing.T) { synctest.Test(t, everySchedule) }

func everySchedule(t *testing.T) {
	downs := func(n int64) call { return call{op: down, n: n} }
	waits, lefts, arrives := call{op: wait}, call{op: left}, call{op: arrive}
	locks, unlocks, visits := call{op: lock}, call{op: unlock}, call{op: visit}
	both := []call{locks, unlocks}
	for _, row := range []struct {
		of    size
		calls [][]call
		runs  int // so many schedules there are
		dead  int // and so many of them end dead
	}{
		{size{1, 1}, [][]call{{waits}, {downs(1)}}, 3, 0},
		{size{1, 1}, [][]call{{waits}, {waits}, {downs(1)}}, 50, 0},
		{size{2, 1}, [][]call{{waits}, {downs(1)}, {downs(1)}}, 166, 0},
		{size{2, 1}, [][]call{{waits, lefts}, {downs(2)}, {lefts}}, 19, 0},
		{size{3, 1}, [][]call{{downs(2)}, {downs(2)}, {lefts}}, 32, 0},
		{size{2, 1}, [][]call{{waits}, {downs(1)}}, 3, 3},
		{size{0, 1}, [][]call{both, both}, 6, 0},
		{size{0, 1}, [][]call{both, both, both}, 390, 0},
		{size{0, 1}, [][]call{both, {visits}}, 8, 0},
		{size{0, 1}, [][]call{both, {visits, visits}}, 54, 0},
		{size{0, 1}, [][]call{both, {visits}, {visits}}, 152, 0},
		{size{0, 1}, [][]call{both, {unlocks}}, 3, 0},
		{size{0, 1}, [][]call{{locks}, {locks}}, 2, 2},
		{size{0, 1}, [][]call{{arrives}, {arrives}}, 40, 0},
		{size{0, 2}, [][]call{{arrives}}, 1, 1},
		{size{0, 2}, [][]call{{arrives}, {arrives}}, 6, 0},
		{size{0, 2}, [][]call{{arrives, arrives}, {arrives, arrives}}, 60, 0},
		{size{0, 2}, [][]call{{arrives}, {arrives}, {arrives}}, 774, 54},
		{size{0, 3}, [][]call{{arrives}, {arrives}}, 6, 6},
		{size{0, 3}, [][]call{{arrives}, {arrives}, {arrives}}, 180, 0},
		{size{0, 2}, [][]call{{arrives, arrives, arrives}, {arrives, arrives, arrives}}, 600, 0},
		{size{2, 2}, [][]call{{arrives, downs(1), waits}, {arrives, downs(1), waits}}, 606, 0},
		{size{2, 1}, [][]call{{locks, downs(1), unlocks, waits}, {locks, downs(1), unlocks, waits}}, 492, 0},
		{size{0, 1}, [][]call{{locks, unlocks, locks, unlocks}, {locks, unlocks, locks, unlocks}}, 134, 0},
	} {
		dead := 0
		runs := aid.Every(40, func(picks []int) []int {
			r := newWorld(row.of, row.calls).run(t, picks, len(picks))
			if t.Failed() || r.End == api.Cut {
				t.Fatalf("%+v, %+v: %v: %s", row.of, row.calls, picks, aid.Texts(r.Log))
			}
			if r.End == api.Dead {
				dead++
			}
			return r.Ready
		})
		if runs != row.runs || dead != row.dead {
			t.Errorf("%+v, %+v: %d schedules, %d dead", row.of, row.calls, runs, dead)
		}
	}
}
