package memo_test

import (
	"io"
	"maps"
	"math"
	"math/rand"
	"slices"
	"strconv"
	"strings"
	"testing"

	"treadle/aid"
	"treadle/api"
	"treadle/fault"
)

// pair: memos of the package, and those of the chapter's words.
type pair struct{ is, as *world }

// newPair: of memos of these sizes, of which one thread made the first calls.
func newPair(t *testing.T, sizes []int, first []call) *pair {
	t.Helper()
	p := &pair{newWorld(made, sizes...), newWorld(newWords, sizes...)}
	p.run(t, [][]call{first}, nil, api.MaxTurns)
	return p
}

// run plays threads that call the package's memos; then threads go through the chapter's words by the same turns: they are to tell just the same.
func (p *pair) run(t *testing.T, calls [][]call, picks []int, most int) api.Report {
	t.Helper()
	r, faults := aid.MirrorTold(picks, most, p.is.bodies(calls), p.as.bodies(calls), &p.is.story, &p.as.story)
	for _, f := range faults {
		t.Errorf("P15.2, P15.3, R1, W1: %s", f)
	}
	if len(p.is.memos) == 1 {
		for k := range p.is.facts {
			if m := marks(r.Log, k.key); !slices.Contains([]string{"", " 5", " 5 6"}, m) || m == " 5" && r.End == api.Over {
				t.Errorf("W2: the marks of the key %d: %s", k.key, m)
			}
		}
	}
	return r
}

// ends: what is found behind a run: what does not follow; and whether the memos are still the same as those of the words.
func (p *pair) ends(t *testing.T) {
	t.Helper()
	for _, f := range p.is.follows() {
		t.Error(f)
	}
	var l []call
	for i := range p.is.memos {
		l = append(l, lists(i))
		for key := range int64(12) {
			l = append(l, getsOf(i, key, gives("t"+strconv.Itoa(i), 100+key)))
		}
		l = append(l, lists(i))
	}
	p.alone(t, l...)
	for _, f := range p.is.follows() {
		t.Errorf("behind it: %s", f)
	}
}

// alone makes the calls, free; nobody else is there: what is told then.
func (p *pair) alone(t *testing.T, calls ...call) string {
	t.Helper()
	is, as := p.is.alone(calls...), p.as.alone(calls...)
	if is != as {
		t.Errorf("P15.2, P15.3: behind it: %s\nwords say %s", is, as)
	}
	return is
}

// maker: of random calls, of so many memos.
type maker struct {
	*rand.Rand
	memos int
	most  int64 // keys are below it
	deeds int
	rises bool // builds ask for greater keys alone: so nobody waits for himself
}

// reasons: errors that builds may come to.
func reasons() []error {
	return []error{io.EOF, &fault.Failed{Code: 3}, &fault.Cancelled{Reason: 4}, fault.Wrap(2, &fault.Late{Due: 9}), api.OK, api.ErrDeep, (*fault.Failed)(nil)}
}

// calls: so many at most, in a build of this key, of keys above it or of any.
func (m *maker) calls(most, depth int, within int64) (l []call) {
	for range m.Intn(most + 1) {
		c := call{op: aid.Some(m.Intn, []int{get, get, get, get, list, add, add}), of: m.Intn(m.memos)}
		if m.Intn(60) == 0 {
			c.of = -1
		}
		if depth > 0 && m.Intn(8) == 0 {
			c.op = grab
		}
		if c.op == get {
			c.key = m.key(within)
			c.does = m.deed(depth, c.key)
		}
		l = append(l, c)
	}
	return l
}

func (m *maker) key(within int64) int64 {
	switch {
	case m.rises && within >= 0:
		return within + 1 + m.Int63n(m.most)
	case m.Intn(40) == 0:
		return aid.Some(m.Intn, []int64{-1, math.MaxInt64, math.MaxInt64 - 1, 1 << 62})
	}
	return m.Int63n(m.most)
}

func (m *maker) deed(depth int, key int64) *deed {
	if m.Intn(60) == 0 {
		return nil
	}
	m.deeds++
	d := gives("d"+strconv.Itoa(m.deeds), int64(m.Intn(9)))
	switch m.Intn(6) {
	case 0:
		d.is = aid.Told(7, aid.Some(m.Intn, reasons()))
	case 1:
		d.falls = true
	}
	if depth < 3 && m.Intn(2) == 0 {
		d.calls = m.calls(3, depth+1, key)
	}
	return d
}

// threads: the calls of some threads.
func (m *maker) threads() (l [][]call) {
	for range 1 + m.Intn(5) {
		l = append(l, m.calls(5, 0, -1))
	}
	return l
}

// TestRuns: random threads under random picks, and again.
func TestRuns(t *testing.T) {
	const enough = 1 << 12
	ended, met := map[int8]int{}, map[string]int{}
	for seed := range int64(12000) {
		r := rand.New(rand.NewSource(seed))
		sizes := make([]int, 1+r.Intn(2))
		for i := range sizes {
			sizes[i] = 1 << r.Intn(4)
		}
		m := &maker{Rand: r, memos: len(sizes), most: 1 + r.Int63n(9)}
		first, calls := m.calls(3, 1, -1), m.threads()
		most := aid.Some(r.Intn, []int{0, 4, 8, 12, 20, enough, enough, enough, enough, enough})
		picks := aid.Mixed(seed, r.Intn, 80, []int{1, 2, 3, 4, 6})
		p := newPair(t, sizes, first)
		from := len(p.is.story)
		report := p.run(t, calls, picks, most)
		counts(met, report, p.is.story[from:])
		if p.ends(t); most == enough && report.End == api.Cut {
			t.Errorf("R1: %d turns are not enough", most)
		}
		for _, f := range aid.Again(report, picks, func() []aid.Body { return newPair(t, sizes, first).is.bodies(calls) }) {
			t.Errorf("W7: %s", f)
		}
		if t.Failed() {
			t.Fatalf("seed %d: %v places: behind %v: %v: %s", seed, sizes, texts(first), calls, aid.Texts(report.Log))
		}
		ended[report.End]++
	}
	if ended[api.Over] < 3000 || ended[api.Cut] < 1000 || ended[api.Dead] < 500 {
		t.Errorf("the threads are no good: %v", ended)
	}
	for _, what := range []string{"built", "told", "refused", "full", "keys", "forestalled", "found so", "claimed", "sleeps", "woken"} {
		if met[what] < 200 {
			t.Errorf("the threads are no good: %s: %d in %v", what, met[what], met)
		}
	}
}

// counts what was met in a run.
func counts(met map[string]int, r api.Report, story aid.Story) {
	for i, a := range r.Log {
		switch {
		case a.Op == api.OpPark:
			met["woken"]++
		case a.Op == api.OpCas && !a.Ok && a.New == 1 && a.Was == 1:
			met["claimed"]++
		case a.Op == api.OpCas && !a.Ok && a.Was == a.New && a.Was > 1:
			met["found so"]++
		case a.Op == api.OpCas && !a.Ok && a.Was > 1 && a.New > 1 && i > 0:
			met["forestalled"]++
		}
	}
	for _, a := range r.Left {
		met["sleeps"] += aid.Digit(a.Op == api.OpPark)
	}
	for _, w := range story {
		what, said, _ := strings.Cut(w.Text, ":")
		switch {
		case !strings.HasPrefix(what, "get"):
			met["keys"] += aid.Digit(strings.HasPrefix(what, "keys"))
		case strings.HasPrefix(said, "built"):
			met["built"]++
		case said == "errno:12":
			met["full"]++
		case said == "errno:1" || said == "errno:2":
			met["refused"]++
		default:
			met["told"]++
		}
	}
}

// TestEverySchedule: small threads under all schedules.
func TestEverySchedule(t *testing.T) {
	a, b, c := gives("A", 5), fails("B", io.EOF), fallen("C")
	for _, row := range []struct {
		size  int
		first []call
		calls [][]call
		runs  int            // so many schedules there are
		dead  int            // so many of them end with somebody who sleeps for good
		ends  map[string]int // what the keys 1 and 6 come to then, and in how many of them
	}{
		{1, nil, [][]call{{gets(1, a)}, {gets(1, b)}}, 214, 0, map[string]int{"get1:5 get6:errno:12": 107, "get1:EOF get6:errno:12": 107}},
		{1, nil, [][]call{{gets(1, a)}, {gets(6, b)}}, 48, 0, map[string]int{"get1:5 get6:errno:12": 24, "get1:errno:12 get6:EOF": 24}},
		{2, nil, [][]call{{gets(1, a)}, {gets(6, c)}}, 648, 0, map[string]int{"get1:5 get6:panicked:C": 648}},
		{1, []call{gets(1, c)}, [][]call{{gets(1, a)}, {gets(1, b)}, {gets(6, b)}}, 140, 0, map[string]int{"get1:panicked:C get6:errno:12": 140}},
		{1, nil, [][]call{{gets(1, a)}, {gets(1, b)}, {lists(0)}}, 2298, 0, map[string]int{"get1:5 get6:errno:12": 1149, "get1:EOF get6:errno:12": 1149}},
		{2, nil, [][]call{{gets(1, gives("D", 1, gets(1, a)))}, {gets(1, gives("E", 1, gets(6, a)))}}, 2785, 190, map[string]int{"get1:1 get6:5": 2595, "get1:sleeps Z( ) get6:built:9": 190}},
		{4, nil, [][]call{{gets(1, gives("D", 1, gets(6, a)))}, {gets(6, gives("E", 2, gets(1, a)))}}, 34170, 11880, map[string]int{"get1:1 get6:5": 11145, "get1:5 get6:2": 11145, "get1:sleeps get6:sleeps": 11880}},
	} {
		dead, ends := 0, map[string]int{}
		runs := aid.Every(99, func(picks []int) []int {
			p := newPair(t, []int{row.size}, row.first)
			r := p.run(t, row.calls, picks, len(picks))
			dead += aid.Digit(r.End == api.Dead)
			ends[p.alone(t, gets(1, gives("Y", 8)), gets(6, gives("Z", 9)))]++
			if p.ends(t); t.Failed() || r.End == api.Cut {
				t.Fatalf("behind %v: %v: %v: %s", texts(row.first), row.calls, picks, aid.Texts(r.Log))
			}
			return r.Ready
		})
		if runs != row.runs || dead != row.dead || !maps.Equal(ends, row.ends) {
			t.Errorf("behind %v, %v: %d schedules, of which %d are dead; they end with %#v", texts(row.first), row.calls, runs, dead, ends)
		}
	}
}

// TestNobodyWaitsForHimself: runs whose builds ask for greater keys alone: none is dead, and all are told.
func TestNobodyWaitsForHimself(t *testing.T) {
	slept := 0
	for seed := range int64(4000) {
		r := rand.New(rand.NewSource(seed))
		size := 1 << r.Intn(5)
		m := &maker{Rand: r, memos: 1, most: 1 + r.Int63n(9), rises: true}
		first, calls := m.calls(2, 2, -1), m.threads()
		p := newPair(t, []int{size}, first)
		report := p.run(t, calls, aid.Picks(r.Intn, 60), api.MaxTurns)
		for _, a := range report.Log {
			slept += aid.Digit(a.Op == api.OpPark)
		}
		if p.ends(t); t.Failed() || report.End != api.Over {
			t.Fatalf("W3, what follows: seed %d: behind %v: %v: end %d: %s", seed, texts(first), calls, report.End, aid.Texts(report.Log))
		}
	}
	if slept < 500 {
		t.Errorf("the threads are no good: %d", slept)
	}
}
