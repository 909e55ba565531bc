package ring_test

import (
	"math"
	"math/rand"
	"slices"
	"testing"

	"treadle/aid"
	"treadle/api"
	"treadle/gate"
	"treadle/ring"
)

// The chapter's steps once more, along records: what a run tells and answers is held against them.

const (
	inCell = iota
	outCell
	placeCells // from here on: of each place its turn and its slot
)

func (m size) turnOf(p int64) int { return placeCells + 2*m.placeOf(p) }
func (m size) slotOf(p int64) int { return placeCells + 2*m.placeOf(p) + 1 }

// held: what the cells hold at first.
func (m size) held() map[int]int64 {
	l := map[int]int64{inCell: m.from, outCell: m.from}
	for i := range m.n {
		p := m.from + int64(i)
		l[m.turnOf(p)], l[m.slotOf(p)] = p, 0
	}
	return l
}

// did: a call along a record: where it is there, and which position it claimed there.
type did struct {
	aid.Span
	call     call
	answer   answer
	claimed  bool
	position int64
	late     int // how often it finds its position's turn gone on
}

// steps: of a call of a ring of this size.
func (m size) steps(s *aid.Steps, d *did) {
	switch d.call.op {
	case put:
		if !m.claims(s, d, inCell, 0) {
			d.answer.e = api.ErrFull
			return
		}
		s.Store(m.slotOf(d.position), d.call.v)
		s.Store(m.turnOf(d.position), d.position+1)
	case take:
		if !m.claims(s, d, outCell, 1) {
			return
		}
		d.answer = took(s.Load(m.slotOf(d.position)))
		s.Store(m.turnOf(d.position), d.position+int64(m.n))
	case length:
		out := s.Load(outCell)
		d.answer.v = s.Load(inCell) - out
	}
}

func (m size) claims(s *aid.Steps, d *did, end int, more int64) bool {
	for {
		p := s.Load(end)
		less := s.Load(m.turnOf(p)) - (p + more)
		if less < 0 {
			return false
		}
		if less > 0 {
			d.late++
			continue
		}
		if s.Cas(end, p, p+1) {
			d.claimed, d.position = true, p
			return true
		}
	}
}

// world: threads that call a ring, and what comes of them.
type world struct {
	of      size
	x       *ring.Ring
	held    map[int]int64 // what the cells hold ahead of the run
	had     []int64       // the values that are there then
	threads aid.Scripts[call, answer]
	did     []*did // those that began, along the record
}

// newWorld: of a ring that one thread made the first calls of.
func newWorld(of size, first []call, calls [][]call) *world {
	x := of.ring()
	ahead := of.world(x, of.held(), [][]call{first})
	held, _ := ahead.threads.Ends(gate.Run(nil, api.MaxTurns, ahead.threads.Bodies()...), of.held())
	w := of.world(x, held, calls)
	w.had = ahead.there()
	return w
}

func (m size) world(x *ring.Ring, held map[int]int64, calls [][]call) *world {
	w := &world{of: m, x: x, held: held}
	w.threads = aid.Scripts[call, answer]{Calls: calls, Do: func(t *gate.Thread, c call) answer { return do(x, t, c) }, Steps: w.steps}
	return w
}

func (w *world) steps(s *aid.Steps, c call) answer {
	d := &did{call: c}
	w.did = append(w.did, d)
	s.Span(&d.Span, func() { w.of.steps(s, d) })
	return d.answer
}

// run plays the threads, and holds what comes of it against the steps, and what follows.
func (w *world) run(t *testing.T, picks []int, most int) api.Report {
	t.Helper()
	r := gate.Run(picks, most, w.threads.Bodies()...)
	ends, faults := w.threads.Ends(r, w.held)
	faults = append(faults, w.follows(len(r.Log))...)
	if r.End == api.Dead || r.End == api.Cut && r.Turns < most || len(r.Fell) != 0 {
		t.Errorf("R1, W3: %+v", r)
	}
	behind := w.of.world(w.x, ends, [][]call{goesAround(w.of.n)})
	last := gate.Run(nil, api.MaxTurns, behind.threads.Bodies()...)
	if _, l := behind.threads.Ends(last, ends); len(l) > 0 {
		faults = append(append(faults, "the cells hold what the record does not say"), l...)
	}
	if there := w.there(); r.End == api.Over && !holds(behind.threads.Got[0], there) {
		t.Errorf("what follows: %v were put and not taken: %v", there, behind.threads.Got[0])
	}
	for _, f := range faults {
		t.Errorf("W1, what follows: %s", f)
	}
	return r
}

// claims: who claimed at an end, by the positions, if they rise one by one from the first one on.
func (w *world) claims(op int) ([]*did, bool) {
	var l []*did
	for _, d := range w.did {
		if d.call.op == op && d.claimed {
			l = append(l, d)
		}
	}
	from := w.held[[]int{put: inCell, take: outCell}[op]]
	slices.SortFunc(l, func(a, b *did) int { return int(a.position-from) - int(b.position-from) })
	for k, d := range l {
		if d.position != from+int64(k) {
			return l, false
		}
	}
	return l, true
}

// there: what was put and not taken, when all calls have ended.
func (w *world) there() []int64 {
	in, _ := w.claims(put)
	out, _ := w.claims(take)
	l := slices.Clone(w.had)
	for _, d := range in {
		l = append(l, d.call.v)
	}
	return l[min(len(out), len(l)):]
}

// holds: whether empties were answered as of a ring that holds these.
func holds(got []answer, there []int64) bool {
	n := len(there)
	if len(got) <= n+2 || got[0] != long(int64(n)) || got[n+1] != none {
		return false
	}
	for i, v := range there {
		if got[i+1] != took(v) {
			return false
		}
	}
	return true
}

// follows: what does not, of that what the chapter says follows.
func (w *world) follows(log int) (faults []string) {
	fault := func(is bool, what string) {
		if is {
			faults = append(faults, what)
		}
	}
	in, inOrder := w.claims(put)
	out, outOrder := w.claims(take)
	fault(!inOrder || !outOrder, "the claims do not rise one by one")
	had := len(w.had)
	fault(len(out) > had+len(in) || had+len(in) > len(out)+w.of.n, "more is claimed than there can be")
	for k, d := range out[:min(len(out), had+len(in))] {
		if k < had {
			fault(d.Last < log && d.answer != took(w.had[k]), "a Take does not take what was there")
			continue
		}
		fault(in[k-had].Last >= d.Last, "a Take ends ahead of the Put that claimed there")
		fault(d.Last < log && d.answer != took(in[k-had].call.v), "a Take does not take what the Put laid that claimed there")
	}
	for _, d := range w.did {
		if d.Last >= log {
			continue
		}
		fault(d.call.op == put && d.claimed != (d.answer == okay) || d.call.op == take && d.claimed != d.answer.ok, "who is told that he did has not claimed")
		if has, alone := w.aheadOf(d); alone {
			_, want := does(plain{room: w.of.n, has: has, values: "0 "}, d.call)
			fault(d.answer.e != want.e || d.answer.ok != want.ok || d.call.op == length && d.answer != want, "with nobody in the midst of a call it is not answered as a queue would")
		}
	}
	return faults
}

// aheadOf: how many values are there ahead of a call, and whether nobody is in the midst of another one from its first access to its last.
func (w *world) aheadOf(d *did) (has int, alone bool) {
	has, alone = len(w.had), true
	for _, o := range w.did {
		if o.Last >= d.First {
			alone = alone && (o == d || o.First > d.Last)
			continue
		}
		if o.claimed && o.call.op == put {
			has++
		}
		if o.claimed && o.call.op == take {
			has--
		}
	}
	return has, alone
}

// TestRuns: random threads under random picks, and again.
func TestRuns(t *testing.T) {
	const enough = 5000
	ended, met := map[int8]int{}, map[string]int{}
	for seed := range int64(6000) {
		r := rand.New(rand.NewSource(seed))
		of := size{2 << r.Intn(2), aid.Some(r.Intn, aid.Positions())}
		first := slices.Repeat([]call{puts(-1), takes}, r.Intn(3))
		for i := range r.Intn(of.n + 1) {
			first = append(first, puts(int64(-10-i)))
		}
		calls := make([][]call, 1+r.Intn(5))
		ops := aid.Some(r.Intn, [][]int{{put, take}, {put, put, take}, {put, take, take}, {put, put, take, take, length}})
		for i := range calls {
			for range r.Intn(9) {
				v := int64(len(calls[i]) + 100*i)
				if seed%4 == 0 {
					v = aid.Some(r.Intn, aid.Values())
				}
				calls[i] = append(calls[i], call{op: aid.Some(r.Intn, ops), v: v})
			}
		}
		most := []int{0, 9, 30, enough, enough, enough}[r.Intn(6)]
		w := newWorld(of, first, calls)
		report := w.run(t, aid.Picks(r.Intn, 60), most)
		if most == enough && report.End != api.Over {
			t.Errorf("R1: %d turns are not enough", most)
		}
		second, e, _ := gate.Again(report.Went, newWorld(of, first, calls).threads.Bodies()...)
		if e != api.OK || !aid.Same(second, report) {
			t.Errorf("W7: %d: %+v, not %+v", e, second, report)
		}
		if t.Failed() {
			t.Fatalf("seed %d: %+v behind %+v: %+v: %s", seed, of, first, calls, aid.Texts(report.Log))
		}
		ended[report.End]++
		w.counts(report, met)
	}
	if ended[api.Over] < 3000 || ended[api.Cut] < 1000 {
		t.Errorf("the threads are no good: %v", ended)
	}
	for _, what := range []string{"full", "none", "put", "took", "forestalled", "late Put", "late Take", "held up"} {
		if met[what] < 300 {
			t.Errorf("the threads are no good: %v", met)
		}
	}
}

// counts what was met in a run.
func (w *world) counts(r api.Report, met map[string]int) {
	for _, a := range r.Log {
		if a.Op == api.OpCas && !a.Ok {
			met["forestalled"]++
		}
	}
	for _, d := range w.did {
		has, alone := w.aheadOf(d)
		switch {
		case d.Last >= len(r.Log):
		case d.call.op == put && d.claimed:
			met["put"]++
		case d.call.op == put:
			met["full"]++
		case d.call.op == take && d.claimed:
			met["took"]++
		case d.call.op == take:
			met["none"]++
			if !alone && has > 0 {
				met["held up"]++
			}
		}
		if d.late > 0 {
			met[[]string{"late Put", "late Take", ""}[d.call.op]]++
		}
	}
}

// TestEverySchedule: small threads under all schedules.
func TestEverySchedule(t *testing.T) {
	const most = math.MaxInt64
	one, two := []call{puts(1)}, []call{puts(1), puts(2)}
	for _, row := range []struct {
		of    size
		first []call
		calls [][]call
		runs  int // so many schedules there are
		fails int // in so many of them a Put or a Take is refused
	}{
		{size{2, 0}, nil, [][]call{{puts(7)}, {puts(8)}}, 594, 0},
		{size{2, 0}, nil, [][]call{{puts(7)}, {takes}}, 21, 15},
		{size{2, 0}, one, [][]call{{puts(7)}, {puts(8)}}, 222, 222},
		{size{2, 0}, one, [][]call{{takes}, {takes}}, 222, 222},
		{size{2, 0}, one, [][]call{{takes}, {puts(8)}}, 252, 0},
		{size{2, 0}, two, [][]call{{takes}, {takes}}, 594, 0},
		{size{2, 0}, two, [][]call{{takes}, {puts(8)}}, 21, 15},
		{size{4, -2}, two, [][]call{{takes}, {puts(8)}}, 252, 0},
		{size{2, most}, one, [][]call{{takes, puts(7)}, {takes}}, 2007, 1528},
		{size{2, most}, one, [][]call{{puts(7), takes}, {puts(8)}}, 2007, 1528},
		{size{2, most - 1}, nil, [][]call{{puts(7), puts(8)}, {takes}}, 897, 15},
		{size{2, most - 1}, two, [][]call{{takes, takes}, {puts(9)}}, 897, 15},
		{size{2, -1}, nil, [][]call{{puts(7)}, {takes, takes}}, 126, 126},
		{size{2, -1}, one, [][]call{{lengths, lengths}, {takes}, {lengths}}, 6930, 0},
		{size{2, -1}, one, [][]call{{puts(7)}, {takes}, {lengths}}, 16632, 0},
		{size{2, 0}, nil, [][]call{{puts(7)}, {takes}, {takes}}, 4092, 4092},
		{size{2, 0}, two, [][]call{{takes}, {puts(8)}, {puts(9)}}, 4092, 4092},
	} {
		fails := 0
		runs := aid.Every(60, func(picks []int) []int {
			w := newWorld(row.of, row.first, row.calls)
			r := w.run(t, picks, len(picks))
			if t.Failed() || r.End == api.Cut {
				t.Fatalf("%+v, %+v: %v: %s", row.of, row.calls, picks, aid.Texts(r.Log))
			}
			if slices.ContainsFunc(w.did, func(d *did) bool { return d.call.op != length && !d.claimed }) {
				fails++
			}
			return r.Ready
		})
		if runs != row.runs || fails != row.fails {
			t.Errorf("%+v behind %+v, %+v: %d schedules, %d fail", row.of, row.first, row.calls, runs, fails)
		}
	}
}
