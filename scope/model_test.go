package scope_test

import (
	"io"
	"maps"
	"math/rand"
	"strconv"
	"strings"
	"testing"

	"treadle/aid"
	"treadle/api"
	"treadle/fault"
)

// pair: a world of the package's, and one of the chapter's words.
type pair struct{ is, as *world }

// newPair: with so many tokens, in which one thread made the first calls.
func newPair(t *testing.T, tokens int, first []call) *pair {
	t.Helper()
	p := &pair{newWorld(made, tokens), newWorld(worded, tokens)}
	p.run(t, [][]call{first}, nil, api.MaxTurns)
	return p
}

// run plays threads that call the package; then threads go through the chapter's words by the same turns: they are to tell just the same.
func (p *pair) run(t *testing.T, calls [][]call, picks []int, most int) api.Report {
	t.Helper()
	r, faults := aid.MirrorTold(picks, most, p.is.bodies(calls), p.as.bodies(calls), &p.is.story, &p.as.story)
	for _, f := range faults {
		t.Errorf("P19.1 to P19.4, R1, W1, W3: %s", f)
	}
	for _, f := range p.is.follows(r.Log, len(calls)) {
		t.Error(f)
	}
	return r
}

// ends: what is found behind a run: of each scope one thread asks for all that is told; it is to be still as by the words.
func (p *pair) ends(t *testing.T) {
	t.Helper()
	var calls [][]call
	for i := range p.is.scopes {
		calls = append(calls, []call{reasons(ofScope + i), begins(i, fine("z")), closes(i), begins(i, fine("z")), waits(i), waits(i), begins(i, fine("z")), reasons(ofScope + i)})
	}
	for i := range p.is.tokens {
		calls = append(calls, []call{reasons(i)})
	}
	p.run(t, calls, nil, api.MaxTurns)
}

// cameTo: what each scope has told, and its token's reason; "lives" of one for which no Wait has answered.
func (w *world) cameTo() string {
	var l []string
	for _, f := range w.facts {
		said := "lives"
		if f.waited {
			said = aid.Told(0, f.told[0]).String()
		}
		l = append(l, said+" "+strconv.FormatInt(f.token.Reason(nil), 10))
	}
	return strings.Join(l, ", ")
}

// maker: of random calls.
type maker struct {
	*rand.Rand
	scopes, tokens int
	deeds          int
}

// calls: so many at most, of these kinds.
func (m *maker) calls(most, depth int, ops []int) (l []call) {
	for range m.Intn(most + 1) {
		l = append(l, m.call(depth, aid.Some(m.Intn, ops)))
	}
	return l
}

func (m *maker) call(depth, op int) call {
	c := call{op: op, of: m.Intn(m.scopes + m.Intn(2))}
	switch op {
	case begin:
		c.does = m.deed(depth)
	case cancel, onCancel, reason, sleep, child, open:
		if c.of = ofScope + m.Intn(m.scopes+m.Intn(2)); m.tokens > 0 && m.Intn(3) == 0 {
			c.of = m.Intn(m.tokens)
		}
	}
	switch {
	case op == cancel:
		c.n = int64(m.Intn(5))
	case op == open && m.Intn(3) == 0:
		c.of = -1
	case op == onCancel: // it doesn't panic: its thread would fall
		c.does = m.deed(depth)
		c.does.falls = false
	case op == begin && m.Intn(30) == 0:
		c.does = nil
	}
	if m.Intn(40) == 0 {
		c.of = -1 - m.Intn(2)
	}
	return c
}

func (m *maker) deed(depth int) *deed {
	m.deeds++
	d := fine("d" + strconv.Itoa(m.deeds))
	switch m.Intn(6) {
	case 0, 1:
		d.e = aid.Some(m.Intn, []error{io.EOF, &fault.Failed{Code: 3}, &fault.Cancelled{Reason: 77}, fault.Wrap(2, &fault.Late{Due: 9}), api.OK, (*fault.Failed)(nil)})
	case 2:
		d.falls, d.with = true, aid.Some(m.Intn, []any{"x", 7, io.EOF, nil})
	}
	if depth < 3 {
		d.calls = m.calls(3, depth+1, []int{begin, shut, cancel, reason, sleep, add, add, add, add, grab, open, onCancel, wait})
	}
	return d
}

// threads: the calls of some threads.
func (m *maker) threads() (l [][]call) {
	for range 1 + m.Intn(4) {
		ops := aid.Some(m.Intn, [][]int{
			{begin}, {begin, begin, wait}, {begin, shut}, {wait}, {begin, begin, begin, wait, cancel}, {cancel, reason}, {sleep, begin}, {open, begin, wait}, {open, child, onCancel, cancel, begin, wait}, {begin, shut, wait, cancel, onCancel, reason, sleep, add, open},
		})
		l = append(l, m.calls(4, 0, ops))
	}
	return l
}

// some: those that one thread makes ahead of a run, in a world with so many tokens; and those of some threads.
func some(r *rand.Rand) (tokens int, first []call, calls [][]call) {
	m := &maker{Rand: r, scopes: 1, tokens: r.Intn(3)}
	first = []call{opens(-1)}
	for range r.Intn(3) {
		first = append(first, m.call(0, open))
		m.scopes++
	}
	first = append(first, m.calls(3, 1, []int{begin, begin, cancel, shut, onCancel})...)
	if r.Intn(10) == 0 { // so many that some find no thread
		for range 70 {
			first = append(first, begins(r.Intn(m.scopes), fine("f", adds())))
		}
	}
	return m.tokens, first, m.threads()
}

// TestRuns: random threads under random picks, and again.
func TestRuns(t *testing.T) {
	const enough = 1 << 12
	ended, met := map[int8]int{}, map[string]int{}
	for seed := range int64(12000) {
		r := rand.New(rand.NewSource(seed))
		tokens, first, calls := some(r)
		most := aid.Some(r.Intn, []int{0, 3, 8, 16, 30, enough, enough, enough, enough, enough, enough})
		picks := aid.Mixed(seed, r.Intn, 120, []int{1, 2, 3, 4, 6, 9})
		p := newPair(t, tokens, first)
		from := len(p.is.story)
		report := p.run(t, calls, picks, most)
		counted(met, report, p.is, from)
		if p.ends(t); most == enough && report.End == api.Cut {
			t.Errorf("R1: %d turns are not enough", most)
		}
		for _, f := range aid.Again(report, picks, func() []aid.Body { return newPair(t, tokens, first).is.bodies(calls) }) {
			t.Errorf("W7: %s", f)
		}
		if t.Failed() {
			t.Fatalf("seed %d: %d tokens, behind %v: %v: %s", seed, tokens, texts(first), calls, aid.Texts(report.Log))
		}
		ended[report.End]++
	}
	if ended[api.Over] < 3000 || ended[api.Cut] < 1000 || ended[api.Dead] < 1000 {
		t.Errorf("the threads are no good: %v", ended)
	}
	for _, what := range []string{
		"new: #", "new: ErrNil", "go: ", "go: ErrArg", "go: ErrNil", "go: ErrClosed", "close: yes", "close: no", "wait: errno:", "wait: ", "wait: failed", "wait: panicked", "sleeps as it waits", "sleeps as it waits for a token", "woken", "fails first", "fails later", "forestalled",
		"cancels", "finds it cancelled",
	} {
		if met[what] < 40 {
			t.Errorf("the threads are no good: %s: %d in %v", what, met[what], met)
		}
	}
}

// counted: what was met in a run.
func counted(met map[string]int, r api.Report, w *world, from int) {
	behind := map[int]int{} // of each thread that is behind its function, how many accesses it has made there, and 1 more
	for _, a := range r.Log {
		met["woken"] += aid.Digit(a.Op == api.OpPark)
		switch n := behind[a.Thread]; {
		case a.Op == api.OpMark && a.New == 8, n > 0:
			behind[a.Thread]++
			met[[]string{"", "fails first", "cancels"}[min(n, 2)*aid.Digit(a.Op == api.OpCas && a.Ok && a.Arg == 0)]]++
			met[[]string{"", "fails later", "finds it cancelled"}[min(n, 2)*aid.Digit(a.Op == api.OpCas && !a.Ok && a.Arg == 0)]]++
		case a.Op == api.OpCas && (a.New == a.Arg+2 || a.New == a.Arg+1):
			met["forestalled"] += aid.Digit(!a.Ok)
		}
	}
	for _, a := range r.Left {
		if a.Op == api.OpPark {
			met[map[bool]string{true: "sleeps as it waits for a token", false: "sleeps as it waits"}[a.Arg == 0]]++
		}
	}
	for _, x := range w.story[from:] {
		what, said, is := strings.Cut(x.Text, ":")
		if what = strings.TrimRight(what, "-0123456789(),s"); !is || what == "add" {
			continue
		}
		if what == "wait" && strings.Contains(said, ":_") {
			said = map[bool]string{true: "panicked", false: "failed"}[strings.Contains(said, "panic")]
		}
		met[what+": "+strings.TrimRight(said, "0123456789")]++
	}
}

// TestEverySchedule: small threads under all schedules.
func TestEverySchedule(t *testing.T) {
	for _, row := range []struct {
		first []call
		calls [][]call
		runs  int            // so many schedules there are
		dead  int            // of those
		ends  map[string]int // what the scopes come to, in how many of them
	}{
		{usual(), [][]call{{begins(0, fine("a"))}, {waits(0)}}, 105, 0, map[string]int{"0 0": 105}},
		{usual(), [][]call{{begins(0, failed("a", 5))}, {waits(0)}}, 519, 0, map[string]int{"0 0": 15, "1:_failed_5 2": 504}},
		{usual(), [][]call{{begins(0, fallen("a", "x"))}, {closes(0)}}, 199, 0, map[string]int{"0 0": 3, "1:_panic 2": 196}},
		{usual(), [][]call{{begins(0, fine("a"))}, {begins(0, failed("b", 5))}}, 2915, 0, map[string]int{"1:_failed_5 2": 2394, "2:_failed_5 2": 521}},
		{[]call{opens(-1), closes(0)}, [][]call{{waits(0)}, {waits(0)}, {begins(0, fine("a"))}}, 140, 0, map[string]int{"0 0": 140}},
		{usual(), [][]call{{begins(0, fine("a", sleeps(ofScope)))}, {cancels(ofScope, 9)}}, 28, 0, map[string]int{"0 9": 28}},
		{usual(), [][]call{{begins(0, failed("a", 5))}, {cancels(ofScope, 9)}}, 36, 0, map[string]int{"1:_failed_5 2": 3, "1:_failed_5 9": 33}},
		{usual(), [][]call{{begins(0, failed("a", 5)), begins(0, fallen("b", "x"))}}, 215, 0, map[string]int{"1:_failed_5 2": 205, "2:_panic 2": 10}},
		{usual(), [][]call{{begins(0, failed("a", 5)), begins(0, fine("b", sleeps(ofScope)))}}, 221, 0, map[string]int{"1:_failed_5 2": 221}},
		{usual(), [][]call{{begins(0, fine("a", begins(0, failed("b", 5)))), waits(0)}}, 7053, 0, map[string]int{"0 0": 11, "2:_failed_5 2": 7042}},
		{usual(), [][]call{{begins(0, fine("a", closes(0))), waits(0)}}, 22, 0, map[string]int{"0 0": 22}},
		{usual(), [][]call{{begins(0, fine("a", waits(0)))}, {closes(0)}}, 149, 146, map[string]int{"0 0": 3, "lives 0": 146}},
		{[]call{opens(0)}, [][]call{{begins(0, failed("a", 5))}, {cancels(0, 9)}}, 347, 0, map[string]int{"1:_failed_5 2": 109, "1:_failed_5 9": 238}},
		{nil, [][]call{{opens(0), begins(0, failed("a", 5))}, {cancels(0, 9)}}, 719, 0, map[string]int{"1:_failed_5 2": 181, "1:_failed_5 9": 538}},
		{nil, [][]call{{opens(0), waits(0)}, {cancels(0, 9)}}, 181, 0, map[string]int{"0 9": 181}},
	} {
		dead, ends := 0, map[string]int{}
		runs := aid.Every(99, func(picks []int) []int {
			p := newPair(t, 1, row.first)
			r := p.run(t, row.calls, picks, len(picks))
			dead += aid.Digit(r.End == api.Dead)
			if p.ends(t); t.Failed() || r.End == api.Cut {
				t.Fatalf("%v: %v: %s", row.calls, picks, aid.Texts(r.Log))
			}
			ends[p.is.cameTo()]++
			return r.Ready
		})
		if runs != row.runs || dead != row.dead || !maps.Equal(ends, row.ends) {
			t.Errorf("%v: %d schedules, of which %d are dead, that end with %#v", row.calls, runs, dead, ends)
		}
	}
}
