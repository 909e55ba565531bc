package prio_test

import (
	"math/rand"
	"slices"
	"testing"

	"treadle/aid"
	"treadle/api"
	"treadle/gate"
	"treadle/prio"
)

// The chapter's steps once more, along records: what a run tells and answers is held against them.

// The cells, as the steps name them: tickets; of each level in and out, and of each of its places the turn, the ticket and the slot.
const ticketsCell = 0

func (m size) inOf(level int) int  { return 1 + level*(2+3*m.room) }
func (m size) outOf(level int) int { return m.inOf(level) + 1 }
func (m size) turnOf(level int, p int64) int {
	return m.inOf(level) + 2 + 3*int(p%int64(m.room)) // no position comes to the end of int64
}
func (m size) ticketOf(level int, p int64) int { return m.turnOf(level, p) + 1 }
func (m size) slotOf(level int, p int64) int   { return m.turnOf(level, p) + 2 }

// held: what the cells hold at first.
func (m size) held() map[int]int64 {
	l := map[int]int64{ticketsCell: 0}
	for n := range m.levels {
		l[m.inOf(n)], l[m.outOf(n)] = 0, 0
		for p := range int64(m.room) {
			l[m.turnOf(n, p)], l[m.ticketOf(n, p)], l[m.slotOf(n, p)] = p, 0, 0
		}
	}
	return l
}

// did: a call along a record: where it is there, and what it claimed there: on which level which position; the ticket is the one that a put drew, or a take found.
type did struct {
	aid.Span
	call     call
	answer   answer
	claimed  bool
	level    int
	position int64
	ticket   int64
	rounds   int  // how often it did its first step
	aged     bool // it was chosen ahead of what a take found on a higher level
	late     bool // a take found a place whose value had been taken meanwhile
}

// steps: of a call of a Prio of this size.
func (m size) steps(s *aid.Steps, d *did) {
	if d.call.op == take {
		m.stepsOfTake(s, d)
		return
	}
	n := d.call.level
	if n < 0 || n >= m.levels {
		d.answer = noLevel
		return
	}
	for !d.claimed {
		d.rounds++
		p := s.Load(m.inOf(n))
		less := s.Load(m.turnOf(n, p)) - p
		if less < 0 {
			d.answer = full
			return
		}
		if less == 0 {
			d.claimed = s.Cas(m.inOf(n), p, p+1)
		}
		d.level, d.position = n, p
	}
	d.ticket = s.Add(ticketsCell, 1)
	s.Store(m.ticketOf(n, d.position), d.ticket)
	s.Store(m.slotOf(n, d.position), d.call.v)
	s.Store(m.turnOf(n, d.position), d.position+1)
}

func (m size) stepsOfTake(s *aid.Steps, d *did) {
	for !d.claimed {
		d.rounds++
		var found []did
		for n := m.levels - 1; n >= 0; n-- {
			p := s.Load(m.outOf(n))
			turn := s.Load(m.turnOf(n, p))
			d.late = d.late || turn > p+1
			if turn == p+1 {
				found = append(found, did{level: n, position: p, ticket: s.Load(m.ticketOf(n, p))})
			}
		}
		if len(found) == 0 {
			return
		}
		best := slices.MaxFunc(found, func(a, b did) int {
			if worth := (64*int64(a.level) - a.ticket) - (64*int64(b.level) - b.ticket); worth != 0 {
				return int(worth)
			}
			return int(b.ticket - a.ticket)
		})
		d.level, d.position, d.ticket, d.aged = best.level, best.position, best.ticket, best.level < found[0].level
		d.claimed = s.Cas(m.outOf(d.level), d.position, d.position+1)
	}
	d.answer = took(d.level, s.Load(m.slotOf(d.level, d.position)))
	s.Store(m.turnOf(d.level, d.position), d.position+int64(m.room))
}

// start: what a Prio is when one alone has made the first calls of it.
type start struct {
	of    size
	first []call
	held  map[int]int64 // what the cells hold
	has   *plain        // what is there
}

func (m size) behind(first ...call) *start {
	w := m.world(m.prio(), [][]call{first})
	held, _ := w.threads.Ends(gate.Run(nil, api.MaxTurns, w.threads.Bodies()...), w.from.held)
	has := m.plain()
	has.answers(first...)
	return &start{m, first, held, has}
}

// world: threads that call a Prio, and what comes of them.
type world struct {
	x       *prio.Prio
	from    *start
	threads aid.Scripts[call, answer]
	did     []*did // those that began, along the record, thread by thread
}

// world: of such a Prio, whose first calls were free.
func (s *start) world(calls [][]call) *world { return s.worldOf(s.of.filled(s.first...), calls) }

func (s *start) worldOf(x *prio.Prio, calls [][]call) *world {
	w := &world{x: x, from: s}
	w.threads = aid.Scripts[call, answer]{Calls: calls, Do: func(t *gate.Thread, c call) answer { return do(x, t, c) }, Steps: w.steps}
	return w
}

// world: of a Prio that is nobody's yet.
func (m size) world(x *prio.Prio, calls [][]call) *world {
	return (&start{of: m, held: m.held(), has: m.plain()}).worldOf(x, calls)
}

func (w *world) steps(s *aid.Steps, c call) answer {
	d := &did{call: c}
	w.did = append(w.did, d)
	s.Span(&d.Span, func() { w.from.of.steps(s, d) })
	return d.answer
}

// run plays the threads, and holds what comes of it against the steps, and what follows.
func (w *world) run(t *testing.T, picks []int, most int) api.Report {
	t.Helper()
	r := gate.Run(picks, most, w.threads.Bodies()...)
	ends, faults := w.threads.Ends(r, w.from.held)
	faults = append(faults, w.follows(len(r.Log))...)
	if r.End == api.Dead || r.End == api.Cut && r.Turns < most || len(r.Fell) != 0 {
		t.Errorf("R1, W3: %+v", r)
	}
	around := w.from.of.goesAround()
	behind := (&start{of: w.from.of, held: ends}).worldOf(w.x, [][]call{around})
	last := gate.Run(nil, api.MaxTurns, behind.threads.Bodies()...)
	if _, l := behind.threads.Ends(last, ends); len(l) > 0 {
		faults = append(append(faults, "the cells hold what the record does not say"), l...)
	}
	if there := w.there(len(r.Log)); r.End == api.Over && !slices.Equal(behind.threads.Got[0], there.answers(around...)) {
		t.Errorf("what follows: behind it %v", behind.threads.Got[0])
	}
	for _, f := range faults {
		t.Errorf("W1, what follows: %s", f)
	}
	return r
}

// claims: who claimed at one end of a level, by the positions, if they rise one by one from the first one on.
func (w *world) claims(op, level int) ([]*did, bool) {
	var l []*did
	for _, d := range w.did {
		if d.call.op == op && d.claimed && d.level == level {
			l = append(l, d)
		}
	}
	slices.SortFunc(l, func(a, b *did) int { return int(a.position - b.position) })
	from := w.from.held[[]int{put: w.from.of.inOf(level), take: w.from.of.outOf(level)}[op]]
	for k, d := range l {
		if d.position != from+int64(k) {
			return l, false
		}
	}
	return l, true
}

// there: what is there ahead of an entry of the log, of that what calls put and took that have ended by then.
func (w *world) there(at int) *plain {
	s := w.from.of.plain()
	for n := range s.levels {
		in, _ := w.claims(put, n)
		out, _ := w.claims(take, n)
		s.levels[n] = slices.Clone(w.from.has.levels[n])
		for _, d := range in {
			if d.Last < at {
				s.levels[n] = append(s.levels[n], item{d.ticket, d.call.v})
			}
		}
		for _, d := range out {
			if d.Last < at && len(s.levels[n]) > 0 {
				s.levels[n] = s.levels[n][1:]
			}
		}
	}
	s.drawn = w.from.has.drawn
	for _, d := range w.did {
		s.drawn = max(s.drawn, d.ticket)
	}
	return s
}

// follows: what does not, of that what the chapter says follows.
func (w *world) follows(log int) (faults []string) {
	fault := func(is bool, what string) {
		if is {
			faults = append(faults, what)
		}
	}
	for n := range w.from.of.levels {
		in, inOrder := w.claims(put, n)
		out, outOrder := w.claims(take, n)
		had := len(w.from.has.levels[n])
		fault(!inOrder || !outOrder, "the claims do not rise one by one")
		fault(len(out) > had+len(in) || had+len(in) > len(out)+w.from.of.room, "more is claimed than there can be")
		for k, d := range out[:min(len(out), had+len(in))] {
			if k < had {
				fault(d.Last < log && d.answer != took(n, w.from.has.levels[n][k].v), "a Take does not take what was there")
				continue
			}
			fault(in[k-had].Last >= d.Last, "a Take ends ahead of the Put that claimed there")
			fault(d.Last < log && d.answer != took(n, in[k-had].call.v), "a Take does not take what the Put laid that claimed there")
		}
	}
	for _, d := range w.did {
		if d.Last >= log {
			continue
		}
		fault(d.call.op == put && d.claimed != (d.answer == okay) || d.call.op == take && d.claimed != d.answer.ok, "who is told that he did has not claimed")
		fault(w.isAlone(d) && d.answer != w.there(d.First).does(d.call), "with nobody in the midst of a call it is not answered as by the words")
	}
	return faults
}

// isAlone: whether nobody is in the midst of another call, from this one's first access to its last.
func (w *world) isAlone(d *did) bool {
	return !slices.ContainsFunc(w.did, func(o *did) bool { return o != d && o.First <= d.Last && o.Last >= d.First })
}

// maker: of random calls of a Prio of this size.
type maker struct {
	*rand.Rand
	of   size
	far  bool // values at the ends of int64; else each is another one
	made int64
}

// call: one that puts, so often of so many.
func (m *maker) call(puts, of int) call {
	c := call{op: put, level: m.Intn(m.of.levels)}
	if m.Intn(of) >= puts {
		return takes
	}
	if m.Intn(40) == 0 {
		c.level = aid.Some(m.Intn, []int{-1, m.of.levels})
	}
	m.made++
	if c.v = m.made; m.far {
		c.v = aid.Some(m.Intn, aid.Values())
	}
	return c
}

func (m *maker) calls(most, puts, of int) (l []call) {
	for range m.Intn(most + 1) {
		l = append(l, m.call(puts, of))
	}
	return l
}

// TestRuns: random threads under random picks, and again.
func TestRuns(t *testing.T) {
	const enough = 1 << 13
	ended, met := map[int8]int{}, map[string]int{}
	for seed := range int64(6000) {
		r := rand.New(rand.NewSource(seed))
		m := &maker{Rand: r, of: size{1 + r.Intn(4), 2 << r.Intn(2)}, far: seed%4 == 1}
		first := m.calls(12, 2, 3)
		if top := m.of.levels - 1; seed%4 == 2 && top > 0 { // what waits is soon worth as much as what comes
			first = slices.Repeat([]call{puts(top, -1), takes}, 58+r.Intn(8))
			first = append([]call{puts(top-1, -2), puts(top-1, -3)}, first...)
		}
		mix := aid.Some(r.Intn, [][2]int{{1, 2}, {2, 3}, {1, 3}})
		calls := make([][]call, 1+r.Intn(5))
		for i := range calls {
			calls[i] = m.calls(8, mix[0], mix[1])
		}
		most := aid.Some(r.Intn, []int{0, 9, 30, enough, enough, enough})
		picks := aid.Mixed(seed, r.Intn, 90, []int{1, 2, 3, 4, 7, 12})
		from := m.of.behind(first...)
		w := from.world(calls)
		report := w.run(t, picks, most)
		if most == enough && report.End != api.Over {
			t.Errorf("R1: %d turns are not enough", most)
		}
		for _, f := range aid.Again(report, picks, func() []aid.Body { return from.world(calls).threads.Bodies() }) {
			t.Errorf("W7: %s", f)
		}
		if t.Failed() {
			t.Fatalf("seed %d: %+v behind %+v: %+v: %s", seed, m.of, first, calls, aid.Texts(report.Log))
		}
		ended[report.End]++
		w.counts(report, met)
	}
	if ended[api.Over] < 2500 || ended[api.Cut] < 1000 {
		t.Errorf("the threads are no good: %v", ended)
	}
	for _, what := range []string{"put", "full", "no level", "took", "none", "aged", "late Take", "in vain", "Put again", "Take again", "forestalled", "tickets in another order"} {
		if met[what] < 100 {
			t.Errorf("the threads are no good: %s: %d in %v", what, met[what], met)
		}
	}
}

// counts what was met in a run.
func (w *world) counts(r api.Report, met map[string]int) {
	for _, d := range w.did {
		if d.Last >= len(r.Log) {
			continue
		}
		what := kind(d.call, d.answer)
		met[what]++
		met["aged"] += aid.Digit(d.aged)
		met["late Take"] += aid.Digit(d.late)
		met["in vain"] += aid.Digit(what == "none" && w.there(d.First).highest() >= 0 && w.there(d.Last).highest() >= 0)
		if what == "put" {
			met["Put again"] += d.rounds - 1
		}
		if what == "took" {
			met["Take again"] += d.rounds - 1
		}
	}
	for _, a := range r.Log {
		met["forestalled"] += aid.Digit(a.Op == api.OpCas && !a.Ok)
	}
	for n := range w.from.of.levels {
		in, _ := w.claims(put, n)
		met["tickets in another order"] += aid.Digit(!slices.IsSortedFunc(in, func(a, b *did) int { return int(a.ticket - b.ticket) }))
	}
}

// TestEverySchedule: small threads under all schedules.
func TestEverySchedule(t *testing.T) {
	one, two := []call{puts(0, 1)}, []call{puts(0, 1), puts(0, 2)}
	for _, row := range []struct {
		of    size
		first []call
		calls [][]call
		runs  int // so many schedules there are
		fails int // in so many of them a Put or a Take is refused
	}{
		{size{1, 2}, nil, [][]call{{puts(0, 7)}, {puts(0, 8)}}, 10890, 0},
		{size{1, 2}, nil, [][]call{{puts(0, 7)}, {takes}}, 36, 28},
		{size{1, 2}, one, [][]call{{puts(0, 7)}, {puts(0, 8)}}, 870, 870},
		{size{1, 2}, one, [][]call{{takes}, {takes}}, 880, 880},
		{size{1, 2}, one, [][]call{{takes}, {puts(0, 7)}}, 1716, 0},
		{size{1, 2}, two, [][]call{{takes}, {takes}}, 2836, 8},
		{size{1, 2}, two, [][]call{{takes}, {puts(0, 7)}}, 28, 21},
		{size{1, 2}, nil, [][]call{{puts(0, 7)}, {takes}, {takes}}, 22972, 22972},
		{size{1, 2}, two, [][]call{{puts(0, 7)}, {takes}, {puts(0, 8)}}, 18984, 18984},
		{size{2, 2}, nil, [][]call{{puts(0, 7)}, {puts(1, 8)}}, 3432, 0},
		{size{2, 2}, nil, [][]call{{puts(1, 7), puts(0, 8)}, {takes}}, 32349, 1582},
		{size{2, 2}, one, [][]call{{puts(1, 8)}, {takes}}, 6435, 0},
		{size{2, 2}, []call{puts(1, 1)}, [][]call{{takes}, {takes}}, 24252, 24252},
		{size{3, 2}, []call{puts(1, 1)}, [][]call{{takes}, {puts(2, 7)}}, 19448, 0},
	} {
		fails, from := 0, row.of.behind(row.first...)
		runs := aid.Every(60, func(picks []int) []int {
			w := from.world(row.calls)
			r := w.run(t, picks, len(picks))
			if t.Failed() || r.End == api.Cut {
				t.Fatalf("%+v, %+v: %v: %s", row.of, row.calls, picks, aid.Texts(r.Log))
			}
			fails += aid.Digit(slices.ContainsFunc(w.did, func(d *did) bool { return !d.claimed }))
			return r.Ready
		})
		if runs != row.runs || fails != row.fails {
			t.Errorf("%+v behind %+v, %+v: %d schedules, %d fail", row.of, row.first, row.calls, runs, fails)
		}
	}
}

// TestSwitches: two threads under all schedules in which they change places three times at most; what waits is about as old as what comes is high.
func TestSwitches(t *testing.T) {
	for _, row := range []struct {
		of    size
		first []call
		calls [2][]call
	}{
		{size{2, 2}, []call{puts(0, 1), puts(1, 2)}, [2][]call{{takes}, {takes}}},
		{size{2, 2}, []call{puts(0, 1), puts(1, 2), puts(1, 3)}, [2][]call{{takes}, {takes, puts(1, 4)}}},
		{size{2, 2}, []call{puts(0, 1), puts(0, 2)}, [2][]call{{takes, takes}, {puts(0, 3), puts(1, 4)}}},
		{size{2, 2}, ages(62), [2][]call{{takes, takes}, {puts(1, 3), puts(0, 4)}}},
		{size{2, 2}, ages(62), [2][]call{{takes, takes}, {takes, puts(1, 4)}}},
		{size{2, 2}, ages(63), [2][]call{{takes}, {takes, takes}}},
		{size{2, 2}, ages(63)[:127], [2][]call{{takes, takes}, {puts(1, 3), puts(1, 4)}}},
		{size{3, 2}, []call{puts(1, 1), puts(1, 2)}, [2][]call{{takes, takes}, {puts(2, 3), puts(0, 4)}}},
		{size{3, 2}, []call{puts(2, 1), puts(0, 2)}, [2][]call{{takes, puts(2, 3)}, {takes, puts(1, 4), takes}}},
		{size{3, 4}, nil, [2][]call{{puts(2, 1), puts(0, 2), puts(2, 3)}, {takes, takes, takes}}},
	} {
		from := row.of.behind(row.first...)
		for a := range row.of.accesses(row.first, row.calls[0]) + 1 {
			for b := range row.of.accesses(row.first, row.calls[1]) + 1 {
				for _, c := range []int{1, 2, 3, 4, 6, 9, 99} {
					r := from.world(row.calls[:]).run(t, aid.Goes([2]int{0, a}, [2]int{1, b}, [2]int{0, c}, [2]int{1, 99}), api.MaxTurns)
					if t.Failed() || r.End != api.Over {
						t.Fatalf("%+v behind %d calls, %+v: %d, %d and %d turns: %s", row.of, len(row.first), row.calls, a, b, c, aid.Texts(r.Log))
					}
				}
			}
		}
	}
}

// accesses: how many these calls make, if nobody else goes between them.
func (m size) accesses(first, calls []call) int {
	report, _ := alone(m.filled(first...), calls...)
	return report.Turns
}
