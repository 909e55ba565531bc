package pipe_test

import (
	"maps"
	"math/rand"
	"slices"
	"strings"
	"testing"

	"treadle/aid"
	"treadle/api"
)

// pair: a world of the package's, and one of the chapter's words.
type pair struct{ is, as *world }

// newPair: of these pipes, of which one thread made the first calls.
func newPair(t *testing.T, of plan, first ...call) *pair {
	t.Helper()
	p := &pair{newWorld(made, of), newWorld(worded, of)}
	p.run(t, [][]call{first}, nil, api.MaxTurns)
	return p
}

// run plays threads that call the package; then threads go through the chapter's words by the same turns: they are to tell just the same.
func (p *pair) run(t *testing.T, calls [][]call, picks []int, most int) api.Report {
	t.Helper()
	r, faults := aid.MirrorTold(picks, most, p.is.bodies(calls), p.as.bodies(calls), &p.is.story, &p.as.story)
	for _, f := range faults {
		t.Errorf("P20.1 to P20.5, R1, W1, W3: %s", f)
	}
	for _, f := range p.is.follows(r.End == api.Dead) {
		t.Error(f)
	}
	return r
}

// around: calls that do not sleep, by which a pipe of so many places is emptied, filled, emptied, filled, closed, and emptied; each is refused once.
func around(n int) (l []call) {
	asksAll := slices.Repeat([]call{asks}, n+1)
	var fills []call
	for i := range n + 1 {
		fills = append(fills, tries(int64(-1000-i)))
	}
	return slices.Concat([]call{hears}, asksAll, fills, asksAll, fills, []call{closes, closes, tries(-5), sends(-6)}, asksAll, []call{recvs, hears})
}

// ends: what is found behind a run: one thread goes around in each pipe; it is to be still as by the words. Where somebody was left in the midst of a call the last ones may sleep.
func (p *pair) ends(t *testing.T) {
	t.Helper()
	for i, f := range p.is.facts {
		whole := !f.hurt
		var l []call
		for _, c := range around(f.room) {
			l = append(l, c.on(i))
		}
		r := p.run(t, [][]call{l}, nil, api.MaxTurns)
		if whole && (r.End != api.Over || f.in != f.out || !f.over) {
			t.Errorf("what follows: behind it the pipe %d: end %d; %d are sent and %d received", i, r.End, f.in, f.out)
		}
	}
}

// maker: of random calls of these pipes.
type maker struct {
	*rand.Rand
	of   plan
	far  bool // values at the ends of int64; else each is another one
	made int64
}

// calls: so many at most, of these kinds.
func (m *maker) calls(most int, ops []int) (l []call) {
	for range m.Intn(most + 1) {
		l = append(l, m.call(aid.Some(m.Intn, ops)))
	}
	return l
}

func (m *maker) call(op int) call {
	c := call{op: op, of: m.Intn(len(m.of.rooms))}
	if m.Intn(60) == 0 {
		c.of = -1 - m.Intn(2)
	}
	m.made++
	switch {
	case op == ring:
		c.v = int64(m.Intn(3))
	case c.isSending() && m.far:
		c.v = aid.Some(m.Intn, aid.Values())
	case c.isSending():
		c.v = m.made
	}
	return c
}

// some: pipes; the calls that one thread makes ahead of a run; and those of some threads.
func some(r *rand.Rand) (of plan, first []call, calls [][]call) {
	m := &maker{Rand: r, far: r.Intn(5) == 0}
	for range 1 + r.Intn(3) {
		m.of.rooms = append(m.of.rooms, 2<<r.Intn(2))
	}
	m.of.shared, m.of.rung = r.Intn(2) == 0, aid.Some(r.Intn, aid.Positions())
	first = m.calls(9, []int{try, try, try, ask, hear})
	if r.Intn(6) == 0 {
		first = append(first, m.call(shut))
	}
	for range 1 + r.Intn(5) {
		ops := aid.Some(r.Intn, [][]int{
			{try}, {ask}, {send}, {recv}, {try, ask}, {send, recv}, {send, send, send, shut}, {recv, recv, try}, {send, ask}, {hear, shut}, {ring, hear, try}, {try, try, ask, send, recv, recv, shut, hear, ring},
		})
		calls = append(calls, m.calls(6, ops))
	}
	return m.of, first, calls
}

// TestRuns: random threads under random picks, and again.
func TestRuns(t *testing.T) {
	const enough = 1 << 13
	ended, met := map[int8]int{}, map[string]int{}
	for seed := range int64(12000) {
		r := rand.New(rand.NewSource(seed))
		of, first, calls := some(r)
		most := aid.Some(r.Intn, []int{0, 3, 8, 16, 30, enough, enough, enough, enough, enough, enough})
		picks := aid.Mixed(seed, r.Intn, 120, []int{1, 2, 3, 4, 6, 9})
		p := newPair(t, of, first...)
		from := len(p.is.story)
		report := p.run(t, calls, picks, most)
		p.is.counts(met, report, from)
		if p.ends(t); most == enough && report.End == api.Cut {
			t.Errorf("R1: %d turns are not enough", most)
		}
		for _, f := range aid.Again(report, picks, func() []aid.Body { return newPair(t, of, first...).is.bodies(calls) }) {
			t.Errorf("W7: %s", f)
		}
		if t.Failed() {
			t.Fatalf("seed %d: %+v, behind %v: %v: %s", seed, of, first, calls, aid.Texts(report.Log))
		}
		ended[report.End]++
	}
	if ended[api.Over] < 3000 || ended[api.Cut] < 1000 || ended[api.Dead] < 1000 {
		t.Errorf("the threads are no good: %v", ended)
	}
	for _, what := range []string{
		"try:did", "try:not", "try:closed", "ask:did", "ask:not", "ask:closed", "send:did", "send:closed", "send:ErrNil", "recv:did", "recv:closed", "recv:ErrNil", "close:did", "close:closed", "close:ErrNil",
		"forestalled", "asks again", "sleeps as it sends", "sleeps as it receives", "woken",
	} {
		if met[what] < 40 {
			t.Errorf("the threads are no good: %s: %d in %v", what, met[what], met)
		}
	}
}

// counts what was met in a run.
func (w *world) counts(met map[string]int, r api.Report, from int) {
	at := map[int]api.Access{} // of each thread its last one
	for _, a := range r.Log {
		met["woken"] += aid.Digit(a.Op == api.OpPark)
		met["forestalled"] += aid.Digit(a.Op == api.OpCas && !a.Ok)
		met["asks again"] += aid.Digit(a.Op == api.OpLoad && at[a.Thread].Op == api.OpPark)
		at[a.Thread] = a
	}
	for _, f := range w.facts {
		for _, j := range f.midst {
			met[[]string{send: "sleeps as it sends", recv: "sleeps as it receives", shut: ""}[j.op]] += aid.Digit(r.End == api.Dead)
		}
	}
	for _, x := range w.story[from:] {
		what, said, _ := strings.Cut(x.Text, ":")
		if strings.HasPrefix(said, did) {
			said = did
		}
		met[strings.TrimRight(what, "-0123456789()")+":"+strings.TrimLeft(said, "-0123456789")]++
	}
}

// TestEverySchedule: small threads under all schedules.
func TestEverySchedule(t *testing.T) {
	for _, row := range []struct {
		of    plan
		first []call
		calls [][]call
		runs  int            // so many schedules there are
		dead  int            // of those
		told  map[string]int // what the threads are told, by how many of them
	}{
		{one(2), nil, [][]call{{tries(7)}, {tries(8)}}, 2592, 0, map[string]int{"try0(7):did try0(8):did": 2592}},
		{one(2), nil, [][]call{{tries(7)}, {asks}}, 102, 0, map[string]int{"try0(7):did ask0:did_7": 37, "try0(7):did ask0:not": 65}},
		{one(2), []call{tries(1)}, [][]call{{tries(7)}, {tries(8)}}, 464, 0, map[string]int{"try0(7):did try0(8):not": 232, "try0(7):not try0(8):did": 232}},
		{one(2), []call{tries(1)}, [][]call{{asks}, {asks}}, 790, 0, map[string]int{"ask0:did_1 ask0:not": 395, "ask0:not ask0:did_1": 395}},
		{one(2), []call{tries(1), tries(2)}, [][]call{{asks}, {asks}}, 2592, 0, map[string]int{"ask0:did_1 ask0:did_2": 1296, "ask0:did_2 ask0:did_1": 1296}},
		{one(2), []call{tries(1), tries(2)}, [][]call{{asks}, {tries(8)}}, 52, 0, map[string]int{"ask0:did_1 try0(8):did": 37, "ask0:did_1 try0(8):not": 15}},
		{one(2), nil, [][]call{{tries(7)}, {closes}}, 144, 0, map[string]int{"try0(7):closed close0:did": 19, "try0(7):did close0:did": 125}},
		{one(2), nil, [][]call{{asks}, {closes}}, 20, 0, map[string]int{"ask0:closed close0:did": 16, "ask0:not close0:did": 4}},
		{one(2), nil, [][]call{{closes}, {closes}}, 16, 0, map[string]int{"close0:closed close0:did": 8, "close0:did close0:closed": 8}},
		{one(2), []call{tries(1)}, [][]call{{asks, asks}, {closes}}, 220, 0, map[string]int{"ask0:did_1 ask0:closed close0:did": 210, "ask0:did_1 ask0:not close0:did": 10}},
		{one(2), nil, [][]call{{asks}, {asks}, {closes}}, 1680, 0, map[string]int{"ask0:closed ask0:closed close0:did": 1148, "ask0:closed ask0:not close0:did": 196, "ask0:not ask0:closed close0:did": 196, "ask0:not ask0:not close0:did": 140}},
		{one(2), []call{tries(1)}, [][]call{{tries(7), closes}, {asks}}, 5005, 0, map[string]int{"try0(7):did close0:did ask0:did_1": 5005}},
		{one(2), nil, [][]call{{recvs}, {closes}}, 35, 0, map[string]int{"recv0:closed close0:did": 35}},
		{one(2), nil, [][]call{{recvs}, {tries(7)}}, 273, 0, map[string]int{"recv0:did_7 try0(7):did": 273}},
		{one(2), nil, [][]call{{recvs}, {rings(5), closes}}, 410, 0, map[string]int{"recv0:closed ring0(5):5 close0:did": 410}},
		{one(2), []call{tries(1)}, [][]call{{recvs}, {recvs}}, 2730, 2730, map[string]int{"recv0:did_1": 2730}},
		{one(2), []call{tries(1), closes}, [][]call{{recvs}, {recvs}}, 2730, 0, map[string]int{"recv0:closed recv0:did_1": 1365, "recv0:did_1 recv0:closed": 1365}},
		{one(2), []call{tries(1), tries(2)}, [][]call{{sends(9)}, {closes}}, 17, 0, map[string]int{"send0(9):closed close0:did": 17}},
		{one(2), []call{tries(1), tries(2)}, [][]call{{sends(9)}, {asks}}, 168, 0, map[string]int{"send0(9):did ask0:did_1": 168}},
		{one(2), []call{closes}, [][]call{{recvs}, {sends(5)}, {closes}}, 105, 0, map[string]int{"recv0:closed send0(5):closed close0:closed": 105}},
		{two, nil, [][]call{{recvs}, {tries(7).on(1)}}, 210, 210, map[string]int{"try1(7):did": 210}},
		{two, []call{tries(1), tries(2)}, [][]call{{sends(7)}, {closes.on(1)}}, 20, 20, map[string]int{"close1:did": 20}},
	} {
		dead, told := 0, map[string]int{}
		runs := aid.Every(99, func(picks []int) []int {
			p := newPair(t, row.of, row.first...)
			from := len(p.is.story)
			r := p.run(t, row.calls, picks, len(picks))
			dead += aid.Digit(r.End == api.Dead)
			words := slices.Clone(p.is.story[from:])
			if p.ends(t); t.Failed() || r.End == api.Cut {
				t.Fatalf("%v: %v: %s", row.calls, picks, aid.Texts(r.Log))
			}
			slices.SortStableFunc(words, func(a, b aid.Word) int { return a.Thread - b.Thread })
			told[words.String()]++
			return r.Ready
		})
		if runs != row.runs || dead != row.dead || !maps.Equal(told, row.told) {
			t.Errorf("%v: %d schedules, of which %d are dead, that tell %#v", row.calls, runs, dead, told)
		}
	}
}
