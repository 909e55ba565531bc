package limit_test

import (
	"io"
	"maps"
	"math/rand"
	"slices"
	"strconv"
	"strings"
	"testing"

	"treadle/aid"
	"treadle/api"
	"treadle/fault"
	"treadle/token"
)

// pair: a world of the package's, and one of the chapter's words.
type pair struct {
	is, as *world
	left   bool // somebody has not come to his end
}

// newPair: of such a plan, in which one thread made the first calls.
func newPair(t *testing.T, of plan, first []call) *pair {
	t.Helper()
	p := &pair{is: newWorld(made, of), as: newWorld(words, of)}
	p.run(t, [][]call{first}, nil, api.MaxTurns)
	return p
}

// run plays threads that call the package; then threads go through the chapter's words by the same turns: they are to tell just the same.
func (p *pair) run(t *testing.T, calls [][]call, picks []int, most int) api.Report {
	t.Helper()
	r, faults := aid.MirrorTold(picks, most, p.is.bodies(calls), p.as.bodies(calls), &p.is.story, &p.as.story)
	for _, f := range faults {
		t.Errorf("P17.1, P17.2, R1, W1, W3: %s", f)
	}
	p.left = p.left || r.End != api.Over
	return r
}

// ends: what is found behind a run: what does not follow; and whether all is still as by the words.
func (p *pair) ends(t *testing.T) {
	t.Helper()
	for _, f := range p.is.follows(!p.left) {
		t.Error(f)
	}
	if is, as := p.is.alone(p.is.tells(2)...), p.as.alone(p.as.tells(2)...); is != as {
		t.Errorf("P17.1, P17.2: behind it: %s\nwords say %s", is, as)
	}
	for _, f := range p.is.follows(!p.left) {
		t.Errorf("behind it: %s", f)
	}
}

// maker: of random calls.
type maker struct {
	*rand.Rand
	plan
	deeds int
	deep  bool // there are tokens as deep as may be
}

// calls: so many at most, of these kinds.
func (m *maker) calls(most, depth int, ops []int) (l []call) {
	for range m.Intn(most + 1) {
		l = append(l, m.call(depth, aid.Some(m.Intn, ops)))
	}
	return l
}

func (m *maker) call(depth, op int) call {
	c := call{op: op, clock: m.Intn(m.clocks), of: m.Intn(m.futures + m.Intn(2)), n: int64(m.Intn(5))}
	switch op {
	case deadline, cancel, onCancel, child, reason, wait:
		if c.of = m.Intn(m.tokens + m.Intn(2)); m.deep && m.Intn(2) == 0 {
			c.of = 62 + m.Intn(3)
		}
	}
	if m.Intn(40) == 0 {
		c.of = -1 - m.Intn(2)
	}
	if m.Intn(60) == 0 {
		c.clock = -1 - m.Intn(2)
	}
	if m.Intn(20) == 0 {
		c.n = aid.Some(m.Intn, []int64{-1, -1, 1 << 62, 1<<63 - 1, -1 << 63, 7})
	}
	switch op {
	case complete:
		if c.is = aid.Told(int64(m.Intn(9)), nil); m.Intn(3) == 0 {
			c.is.E = aid.Some(m.Intn, []error{io.EOF, failed(3), &fault.Late{Due: 2}, fault.Wrap(2, &fault.Late{Due: 9}), api.OK, api.ErrFull, (*fault.Late)(nil)})
		}
	case then, onCancel, set:
		c.does = m.deed(depth)
	}
	return c
}

func (m *maker) deed(depth int) *deed {
	m.deeds++
	d := quiet("d" + strconv.Itoa(m.deeds))
	d.falls = m.Intn(3) == 0
	if depth < 2 && m.Intn(2) == 0 {
		d.calls = m.calls(3, depth+1, []int{within, within, deadline, deadline, advance, now, complete, peek, cancel, reason, add, await, then, onCancel})
	}
	return d
}

// threads: the calls of some threads.
func (m *maker) threads() (l [][]call) {
	for range 1 + m.Intn(5) {
		ops := aid.Some(m.Intn, [][]int{
			{complete}, {advance}, {advance, advance, now}, {cancel}, {complete, complete, peek}, {within, await}, {within, within, peek}, {deadline, wait}, {deadline, deadline, reason}, {await, wait}, {then, onCancel, complete, cancel, add},
			{within, deadline}, {within, deadline, advance, set, child}, {within, deadline, advance, complete, cancel, await, wait, then, onCancel, claim},
		})
		l = append(l, m.calls(4, 0, ops))
	}
	return l
}

// someCalls: in such a plan, those that one thread makes ahead of a run; and those of some threads.
func someCalls(r *rand.Rand) (of plan, first []call, calls [][]call) {
	m := &maker{Rand: r, plan: plan{1 + r.Intn(2), 1 + r.Intn(2), 1 + r.Intn(2)}}
	of = m.plan
	first = m.calls(6, 0, []int{within, within, within, deadline, deadline, deadline, then, then, onCancel, onCancel, complete, cancel, advance})
	for _, c := range first { // they are known to the others
		m.futures += aid.Digit(c.op == within)
		m.tokens += aid.Digit(c.op == deadline)
	}
	switch r.Intn(12) {
	case 0:
		first = slices.Concat(crowd(61+r.Intn(4), 0), first)
	case 1:
		first = slices.Concat(tribe(61+r.Intn(4), 0), first)
	case 2, 3:
		first = slices.Concat(timers(12+r.Intn(5), 0, int64(r.Intn(20))), first)
	case 4, 5:
		of.tokens, m.deep = 1, true
		first = slices.Concat(line(62+r.Intn(3)), []call{deadlines(0, 62, 2), deadlines(0, 63, 3), deadlines(0, 64, 1)})
	}
	return of, first, m.threads()
}

// TestRuns: random threads under random picks, and again.
func TestRuns(t *testing.T) {
	const enough = 1 << 14
	ended, met := map[int8]int{}, map[string]int{}
	for seed := range int64(6000) {
		r := rand.New(rand.NewSource(seed))
		of, first, calls := someCalls(r)
		most := aid.Some(r.Intn, []int{0, 8, 16, 30, 60, 100, enough, enough, enough, enough, enough, enough, enough})
		picks := aid.Mixed(seed, r.Intn, 200, []int{1, 2, 3, 5, 8, 13, 21, 23, 30})
		p := newPair(t, of, first)
		from := len(p.is.story)
		report := p.run(t, calls, picks, most)
		counted(met, report, p.is, from)
		if p.ends(t); most == enough && report.End == api.Cut {
			t.Errorf("R1: %d turns are not enough", most)
		}
		for _, f := range aid.Again(report, picks, func() []aid.Body { return newPair(t, of, first).is.bodies(calls) }) {
			t.Errorf("W7: %s", f)
		}
		if t.Failed() {
			t.Fatalf("seed %d: %v: behind %v: %v: %s", seed, of, texts(first), calls, aid.Texts(report.Log))
		}
		ended[report.End]++
	}
	if ended[api.Over] < 2000 || ended[api.Cut] < 1000 || ended[api.Dead] < 500 {
		t.Errorf("the threads are no good: %v", ended)
	}
	for what, least := range enoughOfEach() {
		if met[what] < least {
			t.Errorf("the threads are no good: %s: %d in %v", what, met[what], met)
		}
	}
}

// enoughOfEach: how often such things are to be met.
func enoughOfEach() map[string]int {
	m := map[string]int{"advance: fell": 20, "complete: fell": 50, "cancel: fell": 50}
	for _, what := range []string{
		"within: #", "within: ErrNil", "within: ErrArg", "within: ErrFull", "deadline: #", "deadline: ErrNil", "deadline: ErrArg", "deadline: ErrFull", "deadline: ErrDeep", "advance: ErrBusy", "advance: none", "advance: some", "complete: no", "complete: yes", "cancel: no", "cancel: yes",
		"sleeps", "woken", "is stopped", "is not stopped", "in time", "in time, an error", "late", "open", "its time is over", "cancelled", "lives",
	} {
		m[what] = 40
	}
	return m
}

// counted: what was met in a run.
func counted(met map[string]int, r api.Report, w *world, from int) {
	for _, a := range r.Log {
		met["woken"] += aid.Digit(a.Op == api.OpPark)
		stops := a.Op == api.OpCas && a.Arg%4 == 2 && a.New == a.Arg+2
		met["is stopped"] += aid.Digit(stops && a.Ok)
		met["is not stopped"] += aid.Digit(stops && !a.Ok)
	}
	for _, a := range r.Left {
		met["sleeps"] += aid.Digit(a.Op == api.OpPark)
	}
	for _, x := range w.story[from:] {
		if strings.HasSuffix(x.Text, "(") || x.Text == ")" { // of a function
			continue
		}
		what, said, _ := strings.Cut(x.Text, ":")
		said, _, _ = strings.Cut(said, ":")
		if what = strings.TrimRight(what, "-0123456789(),"); what == "advance" && strings.Trim(said, "0123456789") == "" {
			said = map[bool]string{true: "none", false: "some"}[said == "0"]
		}
		met[what+": "+strings.TrimRight(said, "0123456789")]++
	}
	for _, f := range w.facts {
		_, e, done := f.x.Peek(nil)
		if f.from == nil || f.outside {
			continue
		}
		late, is := e.(*fault.Late)
		switch {
		case !done:
			met["open"]++
		case e == nil:
			met["in time"]++
		case is && late != nil && f.late.late(late.Due):
			met["late"]++
		default:
			met["in time, an error"]++
		}
	}
	for _, h := range w.holds {
		if r := h.k.Reason(nil); h.late != nil {
			met[map[int64]string{0: "lives", 1: "its time is over"}[min(r, 2)]]++
			met["cancelled"] += aid.Digit(r > 1)
		}
	}
}

// TestEverySchedule: small threads under all schedules.
func TestEverySchedule(t *testing.T) {
	for _, row := range []struct {
		of    plan
		first []call
		calls [][]call
		runs  int            // so many schedules there are
		ends  map[string]int // what the futures come to, and the tokens' reasons, and in how many of them
	}{
		{plan{1, 1, 0}, nil, [][]call{{withins(0, 0, 3)}, {completes(0, 5, nil)}}, 165, map[string]int{"peek0:5 peek1:5": 165}},
		{plan{1, 1, 0}, nil, [][]call{{withins(0, 0, 3), awaits(1)}, {completes(0, 5, io.EOF)}}, 990, map[string]int{"peek0:EOF peek1:EOF": 990}},
		{plan{1, 1, 0}, []call{withins(0, 0, 3)}, [][]call{{completes(0, 5, nil)}, {completes(1, 6, nil)}}, 38, map[string]int{"peek0:5 peek1:5": 4, "peek0:5 peek1:6": 34}},
		{plan{1, 1, 0}, []call{withins(0, 0, 3), withins(0, 0, 4)}, [][]call{{completes(0, 5, nil)}, {peeks(2), peeks(1)}}, 78, map[string]int{"peek0:5 peek1:5 peek2:5": 78}},
		{plan{1, 2, 0}, []call{withins(0, 0, 3), withins(0, 1, 4)}, [][]call{{completes(0, 5, nil)}, {completes(1, 6, nil)}}, 3432, map[string]int{"peek0:5 peek1:6 peek2:5 peek3:6": 3432}},
		{plan{1, 1, 0}, nil, [][]call{{withins(0, 0, 3)}, {sets(0, 4, quiet("s"))}}, 1288, map[string]int{"peek0:none peek1:none": 1288}},
		{plan{1, 0, 1}, nil, [][]call{{deadlines(0, 0, 3)}, {sets(0, 4, quiet("s"))}}, 2924, map[string]int{"reason0:0 reason1:0": 2924}},
		{plan{1, 1, 0}, []call{completes(0, 5, nil)}, [][]call{{withins(0, 0, 3)}, {advances(0, -1), nows(0), peeks(1)}}, 11, map[string]int{"peek0:5 peek1:5": 11}},
		{plan{1, 0, 1}, nil, [][]call{{deadlines(0, 0, 3)}, {cancels(0, 7)}}, 996, map[string]int{"reason0:7 reason1:7": 996}},
		{plan{1, 0, 1}, []call{deadlines(0, 0, 3)}, [][]call{{cancels(0, 7)}, {cancels(1, 8)}, {waits(1)}}, 306, map[string]int{"reason0:7 reason1:7": 48, "reason0:7 reason1:8": 258}},
		{plan{1, 0, 1}, []call{deadlines(0, 0, 3), deadlines(0, 1, 4)}, [][]call{{cancels(0, 7)}, {cancels(2, 8)}}, 86, map[string]int{"reason0:7 reason1:7 reason2:7": 3, "reason0:7 reason1:7 reason2:8": 83}},
		{plan{1, 1, 1}, []call{deadlines(0, 0, 3), withins(0, 0, 4)}, [][]call{{cancels(0, 7)}, {completes(0, 5, nil)}}, 792, map[string]int{"peek0:5 peek1:5 reason0:7 reason1:7": 792}},
	} {
		ends := map[string]int{}
		runs := aid.Every(99, func(picks []int) []int {
			p := newPair(t, row.of, row.first)
			r := p.run(t, row.calls, picks, len(picks))
			ends[p.is.cameTo()]++
			if p.ends(t); t.Failed() || r.End != api.Over {
				t.Fatalf("behind %v: %v: %v: %s", texts(row.first), row.calls, picks, aid.Texts(r.Log))
			}
			return r.Ready
		})
		if runs != row.runs || !maps.Equal(ends, row.ends) {
			t.Errorf("behind %v, %v: %d schedules, that end with %#v", texts(row.first), row.calls, runs, ends)
		}
	}
}

// accesses: how many these calls make, if nobody else goes between them.
func accesses(of plan, first, calls []call) int {
	report, _ := ours(of, first...).one(calls...)
	return report.Turns
}

// TestSwitches: two threads, one of which lets time pass, under all schedules in which they change places three times at most.
func TestSwitches(t *testing.T) {
	for _, row := range []struct {
		what  string
		of    plan
		first []call
		calls [2][]call
		ends  []string // what the futures come to, and the tokens' reasons, and how many timers ring then
	}{
		{"it comes, or is late", plan{1, 1, 0}, []call{withins(0, 0, 3)}, [2][]call{{advances(0, 3)}, {completes(0, 5, nil)}}, []string{"peek0:5 peek1:5 advance0(9):0", "peek0:5 peek1:late_3 advance0(9):0"}},
		{"it comes, an error, or is late, behind another that is", plan{1, 2, 0}, []call{withins(0, 1, 2), withins(0, 0, 3)}, [2][]call{{advances(0, 3)}, {completes(0, 5, io.EOF)}}, []string{"peek0:EOF peek1:none peek2:late_2 peek3:EOF advance0(9):0", "peek0:EOF peek1:none peek2:late_2 peek3:late_3 advance0(9):0"}},
		{"it is made while time passes", plan{1, 1, 0}, nil, [2][]call{{advances(0, 3)}, {withins(0, 0, 2)}}, []string{"peek0:none peek1:late_2 advance0(9):0", "peek0:none peek1:none advance0(9):1"}},
		{"it is made while time passes, of one that is there", plan{1, 1, 0}, []call{completes(0, 5, nil)}, [2][]call{{advances(0, 3)}, {withins(0, 0, 2)}}, []string{"peek0:5 peek1:5 advance0(9):0", "peek0:5 peek1:late_2 advance0(9):0"}},
		{"it is made while time passes, and is refused", plan{1, 1, 0}, crowd(64, 0), [2][]call{{advances(0, 3)}, {withins(0, 0, 2)}}, []string{"peek0:none advance0(9):0"}},
		{"it is cancelled, or its time is over", plan{1, 0, 1}, []call{deadlines(0, 0, 3)}, [2][]call{{advances(0, 3)}, {cancels(0, 7)}}, []string{"reason0:7 reason1:1 advance0(9):0", "reason0:7 reason1:7 advance0(9):0"}},
		{"one of two in one another is cancelled, or their time is over", plan{1, 0, 1}, []call{deadlines(0, 0, 3), deadlines(0, 1, 2)}, [2][]call{{advances(0, 3)}, {cancels(1, 7)}}, []string{"reason0:0 reason1:1 reason2:1 advance0(9):0", "reason0:0 reason1:7 reason2:1 advance0(9):0", "reason0:0 reason1:7 reason2:7 advance0(9):0"}},
		{"it is made while time passes, below one that lives", plan{1, 0, 1}, nil, [2][]call{{advances(0, 3)}, {deadlines(0, 0, 2)}}, []string{"reason0:0 reason1:0 advance0(9):1", "reason0:0 reason1:1 advance0(9):0"}},
		{"it is made while time passes, below one that is cancelled", plan{1, 0, 1}, []call{cancels(0, 7)}, [2][]call{{advances(0, 3)}, {deadlines(0, 0, 2)}}, []string{"reason0:7 reason1:7 advance0(9):0"}},
	} {
		var ends []string
		for a := range accesses(row.of, row.first, row.calls[0]) + 1 {
			for b := range accesses(row.of, row.first, row.calls[1]) + 1 {
				for _, c := range []int{1, 2, 4, 8, 20, 99} {
					p := newPair(t, row.of, row.first)
					r := p.run(t, row.calls[:], aid.Goes([2]int{0, a}, [2]int{1, b}, [2]int{0, c}, [2]int{1, 99}), api.MaxTurns)
					end := p.is.cameTo() + " " + p.is.alone(advances(0, 9))
					if as := p.as.cameTo() + " " + p.as.alone(advances(0, 9)); as != end || r.End != api.Over {
						t.Fatalf("P17.1, P17.2: %s: %s, not %s: %s", row.what, end, as, aid.Texts(r.Log))
					}
					if p.ends(t); t.Failed() {
						t.Fatalf("%s: %d, %d and %d turns: %s", row.what, a, b, c, aid.Texts(r.Log))
					}
					ends = append(ends, end)
				}
			}
		}
		slices.Sort(ends)
		if ends = slices.Compact(ends); !slices.Equal(ends, row.ends) {
			t.Errorf("%s: it ends with %q", row.what, ends)
		}
	}
}

// TestSomebodyFills: runs in which each future that waits for no other is completed, each token that stands below no other cancelled, by somebody who does not wait, or all time passes; no function waits, or panics: none is dead.
func TestSomebodyFills(t *testing.T) {
	slept := 0
	for seed := range int64(4000) {
		r := rand.New(rand.NewSource(seed))
		m := &maker{Rand: r, plan: plan{1 + r.Intn(2), 1 + r.Intn(2), 1 + r.Intn(2)}}
		first := m.calls(5, 2, []int{within, within, deadline, deadline, then, onCancel})
		var doers []call
		for i := range m.futures {
			doers = append(doers, completes(i, int64(i), aid.Some(r.Intn, []error{nil, nil, io.EOF})))
		}
		for i := range m.tokens {
			doers = append(doers, cancels(i, int64(7+i)))
		}
		for range 3 {
			doers = append(doers, advances(r.Intn(m.clocks), int64(r.Intn(3))))
		}
		r.Shuffle(len(doers), func(i, j int) { doers[i], doers[j] = doers[j], doers[i] })
		n := r.Intn(len(doers) + 1)
		calls := [][]call{doers[:n], doers[n:]}
		for range 1 + r.Intn(3) {
			calls = append(calls, m.calls(5, 2, aid.Some(r.Intn, [][]int{{await}, {wait}, {within, await}, {deadline, wait}, {within, deadline, await, wait, peek, reason, then}})))
		}
		r.Shuffle(len(calls), func(i, j int) { calls[i], calls[j] = calls[j], calls[i] })
		for _, l := range append(calls, first) {
			for _, c := range l {
				if c.does != nil {
					c.does.falls = false
				}
			}
		}
		p := newPair(t, m.plan, first)
		report := p.run(t, calls, aid.Picks(r.Intn, 90), api.MaxTurns)
		for _, a := range report.Log {
			slept += aid.Digit(a.Op == api.OpPark)
		}
		lives := func(k *token.Token) bool { return k.Reason(nil) == 0 }
		if s := p.is.cameTo(); strings.Contains(s, "none") || slices.ContainsFunc(p.is.tokens, lives) {
			t.Errorf("what follows: one is left open: %s", s)
		}
		if p.ends(t); t.Failed() || report.End != api.Over {
			t.Fatalf("W3, what follows: seed %d: behind %v: %v: end %d: %s", seed, texts(first), calls, report.End, aid.Texts(report.Log))
		}
	}
	if slept < 500 {
		t.Errorf("the threads are no good: %d", slept)
	}
}
