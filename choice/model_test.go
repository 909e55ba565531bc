package choice_test

import (
	"maps"
	"math/rand"
	"slices"
	"strings"
	"testing"

	"treadle/aid"
	"treadle/api"
)

// pair: a world of the package's, and one of the chapter's words.
type pair struct{ is, as *world }

// newPair: of these pipes and choices, of which one thread made the first calls.
func newPair(t *testing.T, of plan, first ...call) *pair {
	t.Helper()
	p := &pair{newWorld(made, of), newWorld(worded, of)}
	p.run(t, [][]call{first}, nil, api.MaxTurns)
	return p
}

// run plays threads that call the package; then threads go through the chapter's words by the same turns: they are to tell just the same.
func (p *pair) run(t *testing.T, calls [][]call, picks []int, most int) api.Report {
	t.Helper()
	r, faults := aid.MirrorTold(picks, most, p.is.bodies(calls), p.as.bodies(calls), &p.is.story, &p.as.story)
	for _, f := range faults {
		t.Errorf("P21.2 to P21.4, R1, W1, W3: %s", f)
	}
	for _, f := range p.is.facts.follows(r.End == api.Dead) {
		t.Error(f)
	}
	return r
}

// through: calls by which a pipe of so many places is emptied, filled, closed, and emptied; of them none sleeps.
func through(of, room int) (l []call) {
	empties := slices.Repeat([]call{tries(from(of))}, room+1)
	l = append(l, empties...)
	for v := range room + 1 {
		l = append(l, tries(into(of, int64(-1000-v))))
	}
	return slices.Concat(l, []call{closes(of), picks(into(of, 5)), picks(from(of), into(of, 6))}, empties, []call{picks(from(of), from(of))})
}

// ends: what is found behind a run: one thread goes through each pipe, by the choices in turn; it is to be still as by the words. Where somebody was left in the midst of a call the last ones may sleep.
func (p *pair) ends(t *testing.T) {
	t.Helper()
	whole := !p.is.facts.hurt
	for i, f := range p.is.facts.pipes {
		var l []call
		for n, c := range through(i, f.room) {
			if c.chooses() {
				c = c.by(n % len(p.is.choices))
			}
			l = append(l, c)
		}
		r := p.run(t, [][]call{l}, nil, api.MaxTurns)
		if whole && (r.End != api.Over || len(f.in) != len(f.out) || !f.closed) {
			t.Errorf("what follows: behind it the pipe %d: end %d; %d are sent and %d received", i, r.End, len(f.in), len(f.out))
		}
	}
}

// maker: of random calls of these pipes and choices.
type maker struct {
	*rand.Rand
	of   plan
	far  bool // values at the ends of int64; else each is another one
	made int64
}

// somePlan: pipes and choices.
func somePlan(r *rand.Rand) (p plan) {
	for range 1 + r.Intn(3) {
		p.rooms = append(p.rooms, 2<<r.Intn(2))
	}
	for range 1 + r.Intn(2) {
		p.tickets = append(p.tickets, aid.Some(r.Intn, append(aid.Positions(), 0, 0, 0, 0, 0, 0, 0, 0, 0, 0)))
	}
	p.rung = aid.Some(r.Intn, aid.Positions())
	return p
}

// calls: so many at most, of these kinds.
func (m *maker) calls(most int, ops []int) (l []call) {
	for range m.Intn(most + 1) {
		l = append(l, m.call(aid.Some(m.Intn, ops)))
	}
	return l
}

func (m *maker) call(op int) call {
	c := call{op: op}
	switch {
	case c.chooses():
		c.of = m.Intn(len(m.of.tickets))
		if m.Intn(100) == 0 {
			c.of = aid.Some(m.Intn, []int{null, unmade})
		}
		c.arms = m.arms()
	case op == ring:
		c.v = int64(m.Intn(3))
	case op != hear:
		c.of = m.Intn(len(m.of.rooms))
	}
	if c.isSending() {
		c.v = m.value()
	}
	return c
}

// arms: some cases, now and then such that they are refused.
func (m *maker) arms() (l []arm) {
	n := 1 + m.Intn(4)
	if m.Intn(60) == 0 {
		n = aid.Some(m.Intn, []int{0, 9})
	}
	sending := m.Intn(5) // so many of 4 send, all or none too
	for range n {
		a := from(m.Intn(len(m.of.rooms)))
		if m.Intn(4) < sending {
			a = into(a.of, m.value())
		}
		if m.Intn(150) == 0 {
			a.of = aid.Some(m.Intn, []int{null, unmade, strange})
		}
		l = append(l, a)
	}
	return l
}

func (m *maker) value() int64 {
	m.made++
	if m.far {
		return aid.Some(m.Intn, aid.Values())
	}
	return m.made
}

// some: pipes and choices; the calls that one thread makes ahead of a run; and those of some threads.
func some(r *rand.Rand) (of plan, first []call, calls [][]call) {
	m := &maker{Rand: r, of: somePlan(r), far: r.Intn(5) == 0}
	first = m.calls(6, []int{put, put, take, try, hear})
	if r.Intn(6) == 0 {
		first = append(first, m.call(shut))
	}
	for range 1 + r.Intn(5) {
		ops := aid.Some(r.Intn, [][]int{
			{try}, {pick}, {pick}, {try, pick}, {pick, send}, {pick, recv}, {pick, pick, shut}, {send}, {recv}, {put, take}, {ring, hear, try}, {try, pick, send, recv, put, take, shut, hear, ring},
		})
		calls = append(calls, m.calls(5, ops))
	}
	return m.of, first, calls
}

// TestRuns: random threads under random picks, and again.
func TestRuns(t *testing.T) {
	const enough = 1 << 13
	ended, met := map[int8]int{}, map[string]int{}
	for seed := range int64(12000) {
		r := rand.New(rand.NewSource(seed))
		of, first, calls := some(r)
		most := aid.Some(r.Intn, []int{0, 3, 8, 16, 30, enough, enough, enough, enough, enough, enough})
		picks := aid.Mixed(seed, r.Intn, 120, []int{1, 2, 3, 4, 6, 9})
		p := newPair(t, of, first...)
		from := len(p.is.story)
		report := p.run(t, calls, picks, most)
		p.is.counts(met, report, from)
		if p.ends(t); most == enough && report.End == api.Cut {
			t.Errorf("R1: %d turns are not enough", most)
		}
		for _, f := range aid.Again(report, picks, func() []aid.Body { return newPair(t, of, first...).is.bodies(calls) }) {
			t.Errorf("W7: %s", f)
		}
		if t.Failed() {
			t.Fatalf("seed %d: %+v, behind %v: %v: %s", seed, of, first, calls, aid.Texts(report.Log))
		}
		ended[report.End]++
	}
	if ended[api.Over] < 3000 || ended[api.Cut] < 1000 || ended[api.Dead] < 1000 {
		t.Errorf("the threads are no good: %v", ended)
	}
	for _, what := range []string{
		"try:did", "try:not", "try:refused", "try:over", "try:ErrNil", "try:ErrNone", "try:ErrArg", "select:did", "select:refused", "select:over", "select:ErrNil", "select:ErrNone", "select:ErrArg", "forestalled", "looks again", "sleeps", "woken",
	} {
		if met[what] < 40 {
			t.Errorf("the threads are no good: %s: %d in %v", what, met[what], met)
		}
	}
}

// counts what was met in a run.
func (w *world) counts(met map[string]int, r api.Report, from int) {
	at := map[int]api.Access{} // of each thread its last one
	for _, a := range r.Log {
		met["woken"] += aid.Digit(a.Op == api.OpPark)
		met["forestalled"] += aid.Digit(a.Op == api.OpCas && !a.Ok)
		met["looks again"] += aid.Digit(a.Op == api.OpLoad && at[a.Thread].Op == api.OpPark)
		at[a.Thread] = a
	}
	met["sleeps"] += aid.Digit(r.End == api.Dead)
	for _, x := range w.story[from:] {
		what, said, _ := strings.Cut(x.Text, ":")
		what, _, _ = strings.Cut(what, "(")
		said, _, _ = strings.Cut(said, "@")
		met[strings.TrimRight(what, "-0123456789")+":"+said]++
	}
}

// TestEverySchedule: small threads under all schedules.
func TestEverySchedule(t *testing.T) {
	for _, row := range []struct {
		of    plan
		first []call
		calls [][]call
		runs  int            // so many schedules there are
		dead  int            // of those
		told  map[string]int // what the threads are told, by how many of them
	}{
		{two, nil, [][]call{{tries(from(0))}, {closes(0)}}, 35, 0, map[string]int{"try0(r0):not close0:did": 5, "try0(r0):over@0 close0:did": 30}},
		{two, nil, [][]call{{tries(into(0, 5))}, {closes(0)}}, 191, 0, map[string]int{"try0(s0_5):did@0 close0:did": 160, "try0(s0_5):refused@0 close0:did": 31}},
		{two, nil, [][]call{{tries(from(0), from(1))}, {puts(0, 7)}}, 1716, 0, map[string]int{"try0(r0,r1):did@0_7 put0(7):did": 133, "try0(r0,r1):not put0(7):did": 1583}},
		{two, nil, [][]call{{tries(from(0), from(1))}, {puts(1, 7)}}, 2472, 0, map[string]int{"try0(r0,r1):did@1_7 put1(7):did": 1722, "try0(r0,r1):not put1(7):did": 750}},
		{two, []call{puts(0, 1)}, [][]call{{tries(into(0, 5), into(1, 6))}, {puts(0, 7)}}, 4971, 0, map[string]int{"try0(s0_5,s1_6):did@0 put0(7):not": 346, "try0(s0_5,s1_6):did@1 put0(7):did": 4625}},
		{two, nil, [][]call{{picks(from(0), from(1))}, {puts(1, 7)}}, 4389, 0, map[string]int{"select0(r0,r1):did@1_7 put1(7):did": 4389}},
		{two, nil, [][]call{{picks(from(0), from(1))}, {closes(0)}}, 120, 0, map[string]int{"select0(r0,r1):over@0 close0:did": 120}},
		{two, []call{puts(0, 1)}, [][]call{{picks(from(0))}, {tries(from(0))}}, 4906, 2721, map[string]int{"select0(r0):did@0_1 try0(r0):not": 2185, "try0(r0):did@0_1": 2721}},
		{two, []call{puts(0, 1), puts(1, 2)}, [][]call{{picks(from(0), from(1))}, {tries(from(0), from(1))}}, 6435, 0, map[string]int{"select0(r0,r1):did@0_1 try0(r0,r1):did@1_2": 3432, "select0(r0,r1):did@1_2 try0(r0,r1):did@0_1": 3003}},
		{two, []call{puts(0, 1), puts(0, 2)}, [][]call{{picks(into(0, 5))}, {takes(0)}}, 434, 0, map[string]int{"select0(s0_5):did@0 take0:did_1": 434}},
		{two, []call{puts(0, 1), puts(0, 2)}, [][]call{{picks(into(0, 5), from(1))}, {closes(0)}}, 96, 0, map[string]int{"select0(s0_5,r1):refused@0 close0:did": 96}},
		{two, []call{puts(0, 1), puts(0, 2)}, [][]call{{picks(from(1), into(0, 5))}, {closes(1)}}, 90, 0, map[string]int{"select0(r1,s0_5):over@0 close1:did": 90}},
		{two, nil, [][]call{{picks(from(0))}, {rings(1)}, {closes(0)}}, 1264, 0, map[string]int{"select0(r0):over@0 ring(1):1 close0:did": 1108, "select0(r0):over@0 ring(1):2 close0:did": 156}},
		{two, nil, [][]call{{picks(from(0))}, {closes(1)}}, 56, 56, map[string]int{"close1:did": 56}},
	} {
		dead, told := 0, map[string]int{}
		runs := aid.Every(99, func(picks []int) []int {
			p := newPair(t, row.of, row.first...)
			from := len(p.is.story)
			r := p.run(t, row.calls, picks, len(picks))
			dead += aid.Digit(r.End == api.Dead)
			words := slices.Clone(p.is.story[from:])
			if p.ends(t); t.Failed() || r.End == api.Cut {
				t.Fatalf("%v: %v: %s", row.calls, picks, aid.Texts(r.Log))
			}
			slices.SortStableFunc(words, func(a, b aid.Word) int { return a.Thread - b.Thread })
			told[words.String()]++
			return r.Ready
		})
		if runs != row.runs || dead != row.dead || !maps.Equal(told, row.told) {
			t.Errorf("%v: %d schedules, of which %d are dead, that tell %#v", row.calls, runs, dead, told)
		}
	}
}
