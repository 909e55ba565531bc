package join_test

import (
	"io"
	"maps"
	"math/rand"
	"slices"
	"strconv"
	"strings"
	"testing"

	"treadle/aid"
	"treadle/api"
	"treadle/fault"
)

// pair: a world of the package's, and one of the chapter's words.
type pair struct {
	is, as *world
	left   bool // somebody has not come to his end
}

// newPair: of so many futures, of which one thread made the first calls.
func newPair(t *testing.T, n int, first []call) *pair {
	t.Helper()
	p := &pair{is: newWorld(made, n), as: newWorld(words, n)}
	p.run(t, [][]call{first}, nil, api.MaxTurns)
	return p
}

// run plays threads that call the package; then threads go through the chapter's words by the same turns: they are to tell just the same.
func (p *pair) run(t *testing.T, calls [][]call, picks []int, most int) api.Report {
	t.Helper()
	r, faults := aid.MirrorTold(picks, most, p.is.bodies(calls), p.as.bodies(calls), &p.is.story, &p.as.story)
	for _, f := range faults {
		t.Errorf("P16.1 to P16.4, R1, W1, W3: %s", f)
	}
	p.left = p.left || r.End != api.Over
	return r
}

// ends: what is found behind a run: what does not follow; and whether the futures are still the same as those of the words.
func (p *pair) ends(t *testing.T) {
	t.Helper()
	for _, f := range p.is.follows(!p.left) {
		t.Error(f)
	}
	l := tells(len(p.is.all))
	if is, as := p.is.alone(l...), p.as.alone(l...); is != as {
		t.Errorf("P16.1 to P16.4: behind it: %s\nwords say %s", is, as)
	}
	for _, f := range p.is.follows(!p.left) {
		t.Errorf("behind it: %s", f)
	}
}

// maker: of random calls.
type maker struct {
	*rand.Rand
	futures int
	deeds   int
}

// reasons: errors that futures may come to.
func reasons() []error {
	return []error{io.EOF, failed(3), &fault.Cancelled{Reason: 4}, fault.Wrap(2, &fault.Late{Due: 9}), fault.Wrap(0, failed(2)), api.OK, api.ErrFull, (*fault.Failed)(nil), (*fault.At)(nil)}
}

// calls: so many at most, of these kinds.
func (m *maker) calls(most, depth int, ops []int) (l []call) {
	for range m.Intn(most + 1) {
		l = append(l, m.call(depth, aid.Some(m.Intn, ops)))
	}
	return l
}

func (m *maker) call(depth, op int) call {
	c := call{op: op, of: m.Intn(m.futures + 3)}
	if m.Intn(40) == 0 {
		c.of = -1 - m.Intn(2)
	}
	switch op {
	case allOf, anyOf, quorumOf:
		c.list = m.list()
		if c.of = m.Intn(len(c.list) + 1); m.Intn(30) == 0 {
			c.of = aid.Some(m.Intn, []int{-1, len(c.list) + 1})
		}
	case complete:
		if c.is = aid.Told(int64(m.Intn(9)), nil); m.Intn(3) == 0 {
			c.is.E = aid.Some(m.Intn, reasons())
		}
	case then:
		c.does = m.deed(depth)
	}
	return c
}

// list: what a future is made of.
func (m *maker) list() []int {
	l := make([]int, m.Intn(4))
	if m.Intn(30) == 0 {
		l = make([]int, 60+m.Intn(10)) // of one, perhaps, than which it has less room
	}
	for i := range l {
		if l[i] = m.Intn(m.futures); m.Intn(4) == 0 {
			l[i] += m.Intn(3)
		}
		if m.Intn(60) == 0 {
			l[i] = -1 - m.Intn(2)
		}
	}
	return l
}

func (m *maker) deed(depth int) *deed {
	m.deeds++
	d := quiet("d" + strconv.Itoa(m.deeds))
	d.falls = m.Intn(4) == 0
	if depth < 2 && m.Intn(2) == 0 {
		d.calls = m.calls(3, depth+1, []int{complete, complete, then, peek, add, await, values, allOf, anyOf, quorumOf, claim})
	}
	return d
}

// threads: the calls of some threads.
func (m *maker) threads() (l [][]call) {
	for range 1 + m.Intn(5) {
		ops := aid.Some(m.Intn, [][]int{{complete}, {complete, peek}, {complete, complete, complete, claim}, {allOf, values}, {anyOf, await}, {quorumOf, await}, {await, values}, {then, complete, peek, add}, {allOf, anyOf, quorumOf}, {allOf, anyOf, quorumOf, complete, await, values, then}})
		l = append(l, m.calls(5, 0, ops))
	}
	return l
}

// someCalls: of so many futures, those that one thread makes ahead of a run; and those of some threads.
func someCalls(r *rand.Rand) (n int, first []call, calls [][]call) {
	m := &maker{Rand: r, futures: 1 + r.Intn(4)}
	first = m.calls(5, 0, []int{allOf, anyOf, quorumOf, allOf, anyOf, quorumOf, then, complete})
	if r.Intn(6) == 0 {
		first = slices.Concat(crowd(61+r.Intn(4), 0), first)
	}
	return m.futures, first, m.threads()
}

// TestRuns: random threads under random picks, and again.
func TestRuns(t *testing.T) {
	const enough = 1 << 13
	ended, met := map[int8]int{}, map[string]int{}
	for seed := range int64(12000) {
		r := rand.New(rand.NewSource(seed))
		n, first, calls := someCalls(r)
		most := aid.Some(r.Intn, []int{0, 4, 8, 16, 30, enough, enough, enough, enough, enough})
		picks := aid.Mixed(seed, r.Intn, 80, []int{1, 2, 3, 4, 6})
		p := newPair(t, n, first)
		from := len(p.is.story)
		report := p.run(t, calls, picks, most)
		counted(met, report, p.is, from)
		if p.ends(t); most == enough && report.End == api.Cut {
			t.Errorf("R1: %d turns are not enough", most)
		}
		for _, f := range aid.Again(report, picks, func() []aid.Body { return newPair(t, n, first).is.bodies(calls) }) {
			t.Errorf("W7: %s", f)
		}
		if t.Failed() {
			t.Fatalf("seed %d: %d futures: behind %v: %v: %s", seed, n, texts(first), calls, aid.Texts(report.Log))
		}
		ended[report.End]++
	}
	if ended[api.Over] < 3000 || ended[api.Cut] < 1000 || ended[api.Dead] < 1000 {
		t.Errorf("the threads are no good: %v", ended)
	}
	for _, what := range []string{"all: #", "all: ErrNil", "all: ErrFull", "any: #", "any: ErrNil", "any: ErrNone", "any: ErrFull", "quorum: #", "quorum: ErrNil", "quorum: ErrArg", "quorum: ErrFull", "values: told", "values: error", "await: told", "complete: fell", "complete: no", "then: ok", "sleeps", "woken", "all of them: value", "all of them: error", "any of them: value", "any of them: error", "quorum of them: value", "quorum of them: error"} {
		if met[what] < 100 {
			t.Errorf("the threads are no good: %s: %d in %v", what, met[what], met)
		}
	}
}

// counted: what was met in a run.
func counted(met map[string]int, r api.Report, w *world, from int) {
	for _, a := range r.Log {
		met["woken"] += aid.Digit(a.Op == api.OpPark)
	}
	for _, a := range r.Left {
		met["sleeps"] += aid.Digit(a.Op == api.OpPark)
	}
	for _, x := range w.story[from:] {
		i := strings.IndexAny(x.Text, "(:-0123456789")
		_, said, told := strings.Cut(x.Text, ":")
		if !told {
			continue
		}
		switch what := x.Text[:i]; {
		case what == "values" && strings.HasPrefix(said, "["):
			met["values: told"]++
		case what == "values":
			met["values: error"]++
		case what == "await":
			met["await: told"]++
		default:
			said, _, _ = strings.Cut(said, ":")
			met[what+": "+strings.TrimRight(said, "0123456789")]++
		}
	}
	for i, x := range w.all {
		f := w.facts[x]
		if v, e, done := x.Peek(nil); done && f.from != nil && (v != 0 || e != nil) && i > 0 {
			met[[]string{"all", "any", "quorum"}[f.from.op]+" of them: "+map[bool]string{true: "value", false: "error"}[e == nil]]++
		}
	}
}

// TestEverySchedule: small threads under all schedules.
func TestEverySchedule(t *testing.T) {
	for _, row := range []struct {
		n     int
		first []call
		calls [][]call
		runs  int            // so many schedules there are
		ends  map[string]int // what the futures come to, and in how many of them
	}{
		{2, []call{alls(0, 1)}, [][]call{{completes(0, 5, nil)}, {completes(1, 6, nil)}}, 70, map[string]int{"peek0:5 peek1:6 peek2:2": 70}},
		{2, []call{alls(0, 1)}, [][]call{{completes(0, 5, io.EOF)}, {completes(1, 6, failed(8))}}, 70, map[string]int{"peek0:EOF peek1:failed_8 peek2:0:_EOF": 70}},
		{1, nil, [][]call{{alls(0), asks(1)}, {completes(0, 5, nil)}}, 190, map[string]int{"peek0:5 peek1:1": 190}},
		{1, nil, [][]call{{alls(0, 0), asks(1)}, {completes(0, 5, nil)}}, 1297, map[string]int{"peek0:5 peek1:2": 1297}},
		{2, nil, [][]call{{alls(0, 1)}, {completes(1, 5, nil)}}, 84, map[string]int{"peek0:none peek1:5 peek2:none": 84}},
		{1, []call{alls(0)}, [][]call{{completes(0, 5, nil)}, {asks(1)}, {awaits(1)}}, 1230, map[string]int{"peek0:5 peek1:1": 1230}},
		{1, []call{alls(0)}, [][]call{{completes(0, 5, io.EOF)}, {completes(1, 9, nil)}, {asks(1)}}, 2264, map[string]int{"peek0:EOF peek1:0:_EOF": 108, "peek0:EOF peek1:9": 2156}},
		{2, []call{somes(0, 1)}, [][]call{{completes(0, 5, nil)}, {completes(1, 6, nil)}}, 350, map[string]int{"peek0:5 peek1:6 peek2:5": 175, "peek0:5 peek1:6 peek2:6": 175}},
		{2, []call{somes(1, 0)}, [][]call{{completes(0, 5, nil)}, {completes(1, 6, io.EOF)}}, 210, map[string]int{"peek0:5 peek1:EOF peek2:5": 210}},
		{2, []call{somes(1, 0)}, [][]call{{completes(0, 5, io.EOF)}, {completes(1, 6, failed(8))}}, 70, map[string]int{"peek0:EOF peek1:failed_8 peek2:0:_failed_8": 70}},
		{2, nil, [][]call{{somes(0, 1), awaits(2)}, {completes(0, 5, nil)}}, 1503, map[string]int{"peek0:5 peek1:none peek2:5": 1503}},
		{2, []call{completes(1, 5, io.EOF)}, [][]call{{somes(0, 1), awaits(2)}, {completes(0, 5, failed(8))}}, 709, map[string]int{"peek0:failed_8 peek1:EOF peek2:0:_failed_8": 709}},
		{2, []call{quorums(1, 0, 1)}, [][]call{{completes(0, 5, nil)}, {completes(1, 6, nil)}}, 590, map[string]int{"peek0:5 peek1:6 peek2:1": 590}},
		{2, []call{quorums(1, 0, 1)}, [][]call{{completes(0, 5, nil)}, {completes(1, 6, io.EOF)}}, 330, map[string]int{"peek0:5 peek1:EOF peek2:1": 330}},
		{2, []call{quorums(2, 0, 1)}, [][]call{{completes(0, 5, nil)}, {completes(1, 6, io.EOF)}}, 330, map[string]int{"peek0:5 peek1:EOF peek2:failed_1": 330}},
		{2, []call{quorums(2, 0, 1)}, [][]call{{completes(0, 5, io.EOF)}, {completes(1, 6, io.EOF)}}, 590, map[string]int{"peek0:EOF peek1:EOF peek2:failed_1": 590}},
		{2, []call{quorums(2, 0, 1)}, [][]call{{completes(0, 5, nil)}, {completes(1, 6, nil)}}, 70, map[string]int{"peek0:5 peek1:6 peek2:2": 70}},
		{3, []call{quorums(2, 0, 1, 2), completes(2, 5, nil)}, [][]call{{completes(0, 5, io.EOF)}, {completes(1, 6, nil)}}, 330, map[string]int{"peek0:EOF peek1:6 peek2:5 peek3:2": 330}},
		{2, []call{alls(0, 1), somes(2, 0), quorums(1, 2, 1)}, [][]call{{completes(0, 5, nil)}, {completes(1, 6, io.EOF)}}, 13196, map[string]int{"peek0:5 peek1:EOF peek2:1:_EOF peek3:5 peek4:failed_2": 13196}},
	} {
		ends := map[string]int{}
		runs := aid.Every(99, func(picks []int) []int {
			p := newPair(t, row.n, row.first)
			r := p.run(t, row.calls, picks, len(picks))
			ends[p.is.cameTo()]++
			if p.ends(t); t.Failed() || r.End != api.Over {
				t.Fatalf("behind %v: %v: %v: %s", texts(row.first), row.calls, picks, aid.Texts(r.Log))
			}
			return r.Ready
		})
		if runs != row.runs || !maps.Equal(ends, row.ends) {
			t.Errorf("behind %v, %v: %d schedules, that end with %#v", texts(row.first), row.calls, runs, ends)
		}
	}
}

// TestSomebodyFills: runs in which each future that is made of no others is completed by somebody who does not wait, and no function waits, or panics: none is dead, and each that is made of others is filled.
func TestSomebodyFills(t *testing.T) {
	slept := 0
	for seed := range int64(5000) {
		r := rand.New(rand.NewSource(seed))
		m := &maker{Rand: r, futures: 1 + r.Intn(4)}
		first := m.calls(4, 2, []int{then, allOf, anyOf, quorumOf, allOf, anyOf, quorumOf})
		var doers []call
		for i := range m.futures {
			doers = append(doers, completes(i, int64(i), aid.Some(r.Intn, []error{nil, nil, io.EOF})))
		}
		r.Shuffle(len(doers), func(i, j int) { doers[i], doers[j] = doers[j], doers[i] })
		n := r.Intn(len(doers) + 1)
		calls := [][]call{doers[:n], doers[n:]}
		for range 1 + r.Intn(4) {
			calls = append(calls, m.calls(6, 2, aid.Some(r.Intn, [][]int{{await}, {await, values}, {allOf, values, values}, {anyOf, await}, {quorumOf, await}, {allOf, anyOf, quorumOf, await, values, peek, then}})))
		}
		r.Shuffle(len(calls), func(i, j int) { calls[i], calls[j] = calls[j], calls[i] })
		for _, l := range append(calls, first) {
			for _, c := range l {
				if c.op == then {
					c.does.falls = false
				}
			}
		}
		p := newPair(t, m.futures, first)
		report := p.run(t, calls, aid.Picks(r.Intn, 60), api.MaxTurns)
		for _, a := range report.Log {
			slept += aid.Digit(a.Op == api.OpPark)
		}
		if strings.Contains(p.is.cameTo(), "none") {
			t.Errorf("what follows: one is left open: %s", p.is.cameTo())
		}
		if p.ends(t); t.Failed() || report.End != api.Over {
			t.Fatalf("W3, what follows: seed %d: behind %v: %v: end %d: %s", seed, texts(first), calls, report.End, aid.Texts(report.Log))
		}
	}
	if slept < 1000 {
		t.Errorf("the threads are no good: %d", slept)
	}
}
