package task_test

import (
	"io"
	"maps"
	"math/rand"
	"strings"
	"testing"

	"treadle/aid"
	"treadle/api"
	"treadle/fault"
)

// pair: the package's tasks, and those of the chapter's words, of one plan.
type pair struct{ is, as *world }

// newPair: one thread has made the plan's first calls.
func newPair(t *testing.T, p plan) *pair {
	t.Helper()
	x := &pair{p.build(made), p.build(worded)}
	x.run(t, [][]call{p.first}, nil, api.MaxTurns)
	return x
}

// run plays threads that call the package's tasks; then threads go through the chapter's words by the same turns: they are to tell just the same.
func (p *pair) run(t *testing.T, calls [][]call, picks []int, most int) api.Report {
	t.Helper()
	r, faults := aid.MirrorTold(picks, most, p.is.bodies(calls), p.as.bodies(calls), &p.is.story, &p.as.story)
	for _, f := range faults {
		t.Errorf("P13.2 to P13.5, R1, W1, W3: %s", f)
	}
	return r
}

// ends: what is found behind a run that had this record: what does not follow; and whether the tasks are still the same as those of the words.
func (p *pair) ends(t *testing.T, log []api.Access) {
	t.Helper()
	for _, f := range p.is.follows(log) {
		t.Error(f)
	}
	p.is.awake, p.as.awake = true, true
	var l []call
	for i := range p.is.tasks {
		l = append(l, asks(i), waits(i), cancels(i, int64(100+i)), runs(i), waits(i), asks(i))
	}
	if is, as := p.is.makes(nil, l...), p.as.makes(nil, l...); is != as {
		t.Errorf("P13.2 to P13.5: behind it: %s\nwords say %s", is, as)
	}
	for _, f := range p.is.follows(nil) {
		t.Error(f)
	}
}

// maker: of random plans and calls.
type maker struct {
	*rand.Rand
	tasks, tokens int
}

func (m maker) plan() plan {
	p := plan{tokens: m.tokens}
	for i := range m.tasks {
		p.tasks = append(p.tasks, spec{int64(i) * aid.Some(m.Intn, []int64{1, 1, -7, 1 << 40}), m.Intn(m.tokens+2) - 1, m.deed()})
	}
	p.first = m.calls(2, []int{run, cancel, stop, ask, add})
	return p
}

func (m maker) deed() deed {
	d := fine(int64(m.Intn(9)))
	switch m.Intn(6) {
	case 0:
		d = failed(aid.Some(m.Intn, []error{io.EOF, &fault.Failed{Code: 3}, &fault.Cancelled{Reason: 77}, api.ErrDeep}))
	case 1:
		d = fallen(aid.Some(m.Intn, []any{"x", 7, io.EOF, nil}))
	}
	d.calls = m.calls(3, []int{run, cancel, wait, ask, stop, add, add, add, grab})
	return d
}

// calls: so many at most, of these kinds.
func (m maker) calls(most int, ops []int) (l []call) {
	for range m.Intn(most + 1) {
		c := call{op: aid.Some(m.Intn, ops)}
		switch c.op {
		case stop:
			c.of, c.n = m.Intn(m.tokens+1), int64(m.Intn(5))
		case cancel:
			c.of, c.n = m.task(), aid.Some(m.Intn, []int64{1, 2, 3, 3, 4, 5, 6, 0, -1, 1 << 62})
		case run, wait, ask:
			c.of = m.task()
		}
		l = append(l, c)
	}
	return l
}

// task: one of them; now and then none.
func (m maker) task() int {
	if m.Intn(30) == 0 {
		return none
	}
	return m.Intn(m.tasks)
}

// threads: the calls of some threads.
func (m maker) threads() (l [][]call) {
	for range 1 + m.Intn(5) {
		ops := aid.Some(m.Intn, [][]int{{run, run, ask}, {run, wait}, {cancel, ask}, {wait}, {run, cancel, wait, ask, stop, add}, {stop, stop, run}, {stop, run, run}, {wait, cancel}})
		l = append(l, m.calls(4, ops))
	}
	return l
}

// TestRuns: random threads under random picks, and again.
func TestRuns(t *testing.T) {
	const enough = 1 << 12
	ended, met := map[int8]int{}, map[string]int{}
	for seed := range int64(16000) {
		r := rand.New(rand.NewSource(seed))
		m := maker{r, 1 + r.Intn(4), aid.Some(r.Intn, []int{0, 1, 1, 2})}
		plan, calls := m.plan(), m.threads()
		most := aid.Some(r.Intn, []int{0, 3, 6, 10, 15, enough, enough, enough, enough, enough})
		picks := aid.Mixed(seed, r.Intn, 60, []int{1, 2, 3, 4, 6})
		p := newPair(t, plan)
		report := p.run(t, calls, picks, most)
		counts(met, report, p.is)
		p.ends(t, report.Log)
		if most == enough && report.End == api.Cut {
			t.Errorf("R1: %d turns are not enough", most)
		}
		for _, f := range aid.Again(report, picks, func() []aid.Body { return newPair(t, plan).is.bodies(calls) }) {
			t.Errorf("W7: %s", f)
		}
		if t.Failed() {
			t.Fatalf("seed %d: %+v: %v: %s", seed, plan, calls, aid.Texts(report.Log))
		}
		ended[report.End]++
	}
	if ended[api.Over] < 4000 || ended[api.Cut] < 1000 || ended[api.Dead] < 1000 {
		t.Errorf("the threads are no good: %v", ended)
	}
	for _, what := range []string{"runs", "is cancelled", "is dropped", "Run: no", "Cancel: no", "sleeps as it waits", "sleeps as it is claimed", "woken", "told at once", "fell", "left as it runs"} {
		if met[what] < 500 {
			t.Errorf("the threads are no good: %s: %d in %v", what, met[what], met)
		}
	}
}

// counts what was met in a run.
func counts(met map[string]int, r api.Report, w *world) {
	last := map[int]int8{}
	for _, a := range r.Log {
		switch {
		case a.Op == api.OpMark && a.New == 4 && last[a.Thread] == api.OpLoad:
			met["is dropped"]++
		case a.Op == api.OpMark:
			met[[]string{"", "", "runs", "ends", "is cancelled"}[a.New]]++
		case a.Op == api.OpPark:
			met["woken"]++
			met[[]string{"sleeps as it waits", "sleeps as it is claimed"}[a.Arg]]++
		case a.Op == api.OpStore && a.Arg == 3:
			met["fell"]++
		}
		last[a.Thread] = a.Op
	}
	for _, a := range r.Left {
		if a.Op == api.OpPark {
			met[[]string{"sleeps as it waits", "sleeps as it is claimed"}[a.Arg]]++
		}
	}
	for _, x := range w.story {
		met["Run: no"] += aid.Digit(strings.HasPrefix(x.Text, "run") && strings.HasSuffix(x.Text, ":no"))
		met["Cancel: no"] += aid.Digit(strings.HasPrefix(x.Text, "cancel") && strings.HasSuffix(x.Text, ":no"))
	}
	for _, f := range w.facts {
		met["told at once"] += len(f.told)
		met["left as it runs"] += f.begun - f.over
	}
}

// TestSomebodyRuns: runs in which each task is run or cancelled by somebody who does not wait, and the functions end: none is dead, nobody waits for ever.
func TestSomebodyRuns(t *testing.T) {
	waited := 0
	for seed := range int64(5000) {
		r := rand.New(rand.NewSource(seed))
		m := maker{r, 1 + r.Intn(4), r.Intn(3)}
		p := m.plan()
		for i := range p.tasks { // they end: nobody waits in them
			p.tasks[i].does.calls = m.calls(3, []int{run, cancel, ask, stop, add})
		}
		calls := m.threads()
		var doers []call
		for i := range p.tasks {
			doers = append(doers, aid.Some(r.Intn, []call{runs(i), cancels(i, 3)}))
		}
		r.Shuffle(len(doers), func(i, j int) { doers[i], doers[j] = doers[j], doers[i] })
		n := r.Intn(len(doers) + 1)
		calls = append(calls, doers[:n], doers[n:])
		r.Shuffle(len(calls), func(i, j int) { calls[i], calls[j] = calls[j], calls[i] })
		x := newPair(t, p)
		report := x.run(t, calls, aid.Picks(r.Intn, 60), api.MaxTurns)
		for _, a := range report.Log {
			waited += aid.Digit(a.Op == api.OpPark)
		}
		for i, y := range x.is.tasks {
			if s := y.State(nil); s < 2 {
				t.Errorf("W2: the task %d is left as %d", i, s)
			}
		}
		if x.ends(t, report.Log); t.Failed() || report.End != api.Over {
			t.Fatalf("what follows: seed %d: %+v: %v: end %d: %s", seed, p, calls, report.End, aid.Texts(report.Log))
		}
	}
	if waited < 1000 {
		t.Errorf("the threads are no good: %d", waited)
	}
}

// TestEverySchedule: small threads under all schedules.
func TestEverySchedule(t *testing.T) {
	quiet, busy := fine(42), fine(42, adds())
	two := plan{tasks: []spec{{1, none, fine(1, runs(1), waits(1))}, {2, none, fallen("x", adds())}}}
	for _, row := range []struct {
		p     plan
		calls [][]call
		runs  int            // so many schedules there are
		dead  int            // so many of them end with somebody who sleeps for good
		ends  map[string]int // what those that are over tell of the tasks, and in how many of them
	}{
		{one(quiet), [][]call{{runs(0)}, {runs(0)}}, 4, 0, map[string]int{"42": 4}},
		{one(quiet), [][]call{{runs(0)}, {cancels(0, 5)}}, 4, 0, map[string]int{"42": 2, "cancelled:5": 2}},
		{one(quiet), [][]call{{cancels(0, 6)}, {cancels(0, 5)}}, 4, 0, map[string]int{"cancelled:5": 2, "cancelled:6": 2}},
		{one(quiet), [][]call{{runs(0)}, {waits(0)}}, 4, 0, map[string]int{"42": 4}},
		{one(quiet), [][]call{{waits(0), runs(0)}, {waits(0)}}, 2, 2, map[string]int{}},
		{one(busy), [][]call{{runs(0)}, {cancels(0, 5)}, {waits(0)}}, 42, 0, map[string]int{"42": 28, "cancelled:5": 14}},
		{one(fallen("x", adds())), [][]call{{runs(0), waits(0)}, {waits(0)}, {cancels(0, 5), asks(0)}}, 360, 0, map[string]int{"cancelled:5": 132, "panicked:x": 228}},
		{one(failed(io.EOF)), [][]call{{runs(0)}, {waits(0)}, {waits(0)}, {cancels(0, 0)}}, 50, 0, map[string]int{"EOF": 50}},
		{one(fine(1, waits(0))), [][]call{{runs(0)}, {cancels(0, 5)}, {waits(0)}}, 26, 12, map[string]int{"cancelled:5": 14}},
		{held(quiet), [][]call{{runs(0)}, {stops(0, 9)}}, 10, 0, map[string]int{"42": 3, "cancelled:9": 7}},
		{held(busy), [][]call{{runs(0), waits(0)}, {stops(0, 9)}, {runs(0)}}, 366, 0, map[string]int{"42": 228, "cancelled:9": 138}},
		{held(busy), [][]call{{runs(0)}, {stops(0, 9)}, {cancels(0, 5)}}, 86, 0, map[string]int{"42": 36, "cancelled:5": 20, "cancelled:9": 30}},
		{held(quiet), [][]call{{runs(0)}, {stops(0, 9), waits(0)}, {waits(0)}}, 591, 0, map[string]int{"42": 92, "cancelled:9": 499}},
		{two, [][]call{{runs(0)}, {runs(1)}}, 21, 0, map[string]int{"1, panicked:x": 21}},
		{two, [][]call{{runs(0)}, {cancels(1, 5)}, {waits(0)}}, 182, 0, map[string]int{"1, cancelled:5": 102, "1, panicked:x": 80}},
		{plan{tasks: []spec{{1, none, fine(1, waits(1))}, {2, none, fine(2, waits(0))}}}, [][]call{{runs(0)}, {runs(1)}, {cancels(0, 5)}}, 64, 30, map[string]int{"cancelled:5, 2": 34}},
	} {
		dead, ends := 0, map[string]int{}
		runs := aid.Every(99, func(picks []int) []int {
			p := newPair(t, row.p)
			r := p.run(t, row.calls, picks, len(picks))
			if r.End == api.Dead {
				dead++
			} else {
				ends[p.is.cameTo()]++
			}
			p.ends(t, r.Log)
			if t.Failed() || r.End == api.Cut {
				t.Fatalf("%+v: %v: %v: %s", row.p, row.calls, picks, aid.Texts(r.Log))
			}
			return r.Ready
		})
		if runs != row.runs || dead != row.dead || !maps.Equal(ends, row.ends) {
			t.Errorf("%+v, %v: %d schedules, of which %d are dead, the others end with %#v", row.p, row.calls, runs, dead, ends)
		}
	}
}

// cameTo: what each task came to.
func (w *world) cameTo() string {
	var l []string
	for _, x := range w.tasks {
		if x.State(nil) < 2 {
			l = append(l, "nothing")
			continue
		}
		l = append(l, aid.Told(x.Wait(nil)).String())
	}
	return strings.Join(l, ", ")
}
