package future_test

import (
	"io"
	"maps"
	"math/rand"
	"slices"
	"strconv"
	"strings"
	"testing"

	"treadle/aid"
	"treadle/api"
	"treadle/fault"
	"treadle/future"
)

// pair: futures of the package, and those of the chapter's words.
type pair struct {
	is   *world[*future.Future, *future.Promise]
	as   *world[*words, *pledged]
	left bool // somebody has not come to his end
}

// newPair: of so many futures, of which one thread made the first calls.
func newPair(t *testing.T, n int, first []call) *pair {
	t.Helper()
	p := &pair{is: newWorld[*future.Future, *future.Promise](future.New, n), as: newWorld[*words, *pledged](newWords, n)}
	p.run(t, [][]call{first}, nil, api.MaxTurns)
	return p
}

// run plays threads that call the package's futures; then threads go through the chapter's words by the same turns: they are to tell just the same.
func (p *pair) run(t *testing.T, calls [][]call, picks []int, most int) api.Report {
	t.Helper()
	r, faults := aid.MirrorTold(picks, most, p.is.bodies(calls), p.as.bodies(calls), &p.is.story, &p.as.story)
	for _, f := range faults {
		t.Errorf("P14.1 to P14.7, R1, W1, W3: %s", f)
	}
	p.left = p.left || r.End != api.Over
	return r
}

// ends: what is found behind a run: what does not follow; and whether the futures are still the same as those of the words.
func (p *pair) ends(t *testing.T) {
	t.Helper()
	for _, f := range p.is.follows(!p.left) {
		t.Errorf("what follows: %s", f)
	}
	p.is.awake, p.as.awake = true, true
	l := tells(len(p.is.all))
	if is, as := p.is.makes(nil, l...), p.as.makes(nil, l...); is != as {
		t.Errorf("P14.1 to P14.7: behind it: %s\nwords say %s", is, as)
	}
	for _, f := range p.is.follows(!p.left) {
		t.Errorf("what follows: behind it: %s", f)
	}
}

// tells: calls that tell all of so many futures: what they came to, what they have room for, what is in them. Then they are completed.
func tells(n int) (l []call) {
	for i := range n {
		l = append(l, peeks(i), thens(i, quiet("t"+strconv.Itoa(i))))
	}
	for i := range n {
		l = append(l, claims(n), completes(i, 100+int64(i), nil), completes(i, 0, io.EOF), peeks(i), awaits(i), claims(i), thens(i, quiet("u"+strconv.Itoa(i))))
	}
	return l
}

// maker: of random calls.
type maker struct {
	*rand.Rand
	futures int
	deeds   int
}

// reasons: errors that futures may come to.
var reasons = []error{io.EOF, &fault.Failed{Code: 3}, &fault.Cancelled{Reason: 4}, fault.Wrap(2, &fault.Late{Due: 9}), api.OK, (*fault.Failed)(nil)}

// calls: so many at most, of these kinds.
func (m *maker) calls(most, depth int, ops []int) (l []call) {
	for range m.Intn(most + 1) {
		c := m.call(depth, ops)
		if l = append(l, c); c.op == claim && m.Intn(3) > 0 {
			l = append(l, fills(c.of, 9, nil))
		}
	}
	return l
}

func (m *maker) call(depth int, ops []int) call {
	c := call{op: aid.Some(m.Intn, ops), of: m.Intn(m.futures + 1)}
	if m.Intn(40) == 0 {
		c.of = -1
	}
	switch c.op {
	case fill, complete:
		if c.is = aid.Told(int64(m.Intn(9)), nil); m.Intn(3) == 0 {
			c.is.E = aid.Some(m.Intn, reasons)
		}
	case then, alter:
		c.does = m.deed(depth, c.op)
	}
	return c
}

func (m *maker) deed(depth, of int) *deed {
	m.deeds++
	d := quiet("d" + strconv.Itoa(m.deeds))
	if d.falls = m.Intn(10) == 0; m.Intn(40) == 0 {
		return nil
	}
	if of == alter {
		if d.is.V = int64(m.Intn(5)); m.Intn(4) == 0 {
			d.is.E = aid.Some(m.Intn, reasons)
		}
		d.falls = m.Intn(6) == 0
	} else if depth < 2 && m.Intn(2) == 0 {
		d.calls = m.calls(3, depth+1, []int{claim, complete, complete, then, then, peek, peek, alter, add, await})
	}
	return d
}

// threads: the calls of some threads.
func (m *maker) threads() (l [][]call) {
	for range 1 + m.Intn(5) {
		ops := aid.Some(m.Intn, [][]int{{claim, claim, fill}, {claim, fill, fill, peek}, {complete}, {then}, {then, alter, alter}, {await}, {await, complete}, {then, complete, peek, alter, await, add}, {alter, await}})
		l = append(l, m.calls(5, 0, ops))
	}
	return l
}

// someCalls: those that one thread makes ahead of a run; and those of some threads.
func someCalls(r *rand.Rand) (n int, first []call, calls [][]call) {
	m := &maker{Rand: r, futures: 1 + r.Intn(4)}
	first = m.calls(4, 0, []int{then, then, alter, complete, claim, peek})
	if r.Intn(5) == 0 {
		first = append(first, crowd(61+r.Intn(5), 0)...)
	}
	return m.futures, first, m.threads()
}

// crowd: calls that give one future so many functions.
func crowd(n, of int) (l []call) {
	for i := range n {
		if i%5 == 4 {
			l = append(l, alters(of, plus("m"+strconv.Itoa(i), int64(i))))
		} else {
			l = append(l, thens(of, quiet("f"+strconv.Itoa(i))))
		}
	}
	return slices.Clip(l)
}

// TestRuns: random threads under random picks, and again.
func TestRuns(t *testing.T) {
	const enough = 1 << 12
	ended, met := map[int8]int{}, map[string]int{}
	for seed := range int64(12000) {
		r := rand.New(rand.NewSource(seed))
		n, first, calls := someCalls(r)
		most := aid.Some(r.Intn, []int{0, 4, 8, 12, 20, enough, enough, enough, enough, enough})
		picks := aid.Mixed(seed, r.Intn, 80, []int{1, 2, 3, 4, 6})
		p := newPair(t, n, first)
		from := len(p.is.story)
		report := p.run(t, calls, picks, most)
		counts(met, report, p.is.story[from:])
		if p.ends(t); most == enough && report.End == api.Cut {
			t.Errorf("R1: %d turns are not enough", most)
		}
		for _, f := range aid.Again(report, picks, func() []aid.Body { return newPair(t, n, first).is.bodies(calls) }) {
			t.Errorf("W7: %s", f)
		}
		if t.Failed() {
			t.Fatalf("seed %d: %d futures: behind %v: %v: %s", seed, n, texts(first), calls, aid.Texts(report.Log))
		}
		ended[report.End]++
	}
	if ended[api.Over] < 3000 || ended[api.Cut] < 1000 || ended[api.Dead] < 1000 {
		t.Errorf("the threads are no good: %v", ended)
	}
	for _, what := range []string{"claim: yes", "claim: no", "fill: yes", "fill: no", "complete: yes", "complete: no", "then: ok", "then: fell", "map: #", "then: ErrFull", "map: ErrFull", "await: told", "peek: told", "peek: none", "forestalled", "sleeps", "woken", "on it sleeps"} {
		if met[what] < 200 {
			t.Errorf("the threads are no good: %s: %d in %v", what, met[what], met)
		}
	}
}

// counts what was met in a run.
func counts(met map[string]int, r api.Report, story aid.Story) {
	for _, a := range r.Log {
		switch {
		case a.Op == api.OpPark && a.Now == 1:
			met["on it sleeps"]++
		case a.Op == api.OpPark:
			met["woken"]++
		case a.Op == api.OpCas && !a.Ok && a.Arg != 0:
			met["forestalled"]++
		}
	}
	for _, a := range r.Left {
		if a.Op == api.OpPark {
			met["sleeps"]++
		}
	}
	for _, w := range story {
		l := strings.Split(w.Text, ":")
		if what := strings.TrimRight(l[0], "-0123456789"); len(l) > 1 && len(what) > 1 {
			if l[1] = strings.TrimRight(l[1], "0123456789"); what == "await" || what == "peek" && l[1] != "none" {
				l[1] = "told"
			}
			met[what+": "+l[1]]++
		}
	}
}

// TestEverySchedule: small threads under all schedules.
func TestEverySchedule(t *testing.T) {
	a, b := quiet("A"), quiet("B")
	for _, row := range []struct {
		n     int
		first []call
		calls [][]call
		runs  int            // so many schedules there are
		dead  int            // so many of them end with somebody who sleeps for good
		ends  map[string]int // what the futures come to in those that are over, and in how many of them
	}{
		{1, nil, [][]call{{completes(0, 1, nil)}, {completes(0, 2, nil)}}, 6, 0, map[string]int{"peek0:1": 3, "peek0:2": 3}},
		{1, nil, [][]call{{claims(0), fills(0, 1, nil)}, {completes(0, 2, io.EOF)}, {peeks(0)}}, 30, 0, map[string]int{"peek0:1": 15, "peek0:EOF": 15}},
		{1, nil, [][]call{{completes(0, 1, nil)}, {thens(0, a)}}, 20, 0, map[string]int{"peek0:1": 20}},
		{1, nil, [][]call{{completes(0, 1, nil)}, {thens(0, a)}, {awaits(0)}}, 511, 0, map[string]int{"peek0:1": 511}},
		{1, nil, [][]call{{thens(0, a)}, {thens(0, b)}, {completes(0, 1, nil)}}, 4020, 0, map[string]int{"peek0:1": 4020}},
		{1, nil, [][]call{{alters(0, plus("M", 1)), awaits(1)}, {completes(0, 1, nil)}}, 150, 0, map[string]int{"peek0:1 peek1:2": 150}},
		{1, nil, [][]call{{awaits(0)}, {claims(0)}}, 2, 2, map[string]int{}},
		{2, nil, [][]call{{awaits(0), completes(1, 1, nil)}, {awaits(1), completes(0, 1, nil)}, {completes(0, 2, nil)}}, 1128, 0, map[string]int{"peek0:2 peek1:1": 1128}},
		{2, []call{thens(0, busy("C", completes(1, 5, nil)))}, [][]call{{completes(0, 1, nil)}, {completes(1, 2, io.EOF)}, {awaits(1)}}, 1130, 0, map[string]int{"peek0:1 peek1:5": 90, "peek0:1 peek1:EOF": 1040}},
		{1, []call{thens(0, busy("C", thens(0, a), completes(0, 7, nil)))}, [][]call{{completes(0, 1, nil)}, {thens(0, b)}}, 79, 0, map[string]int{"peek0:1": 79}},
		{1, []call{thens(0, fallen("C")), alters(0, plus("M", 2))}, [][]call{{completes(0, 1, nil)}, {completes(1, 9, nil)}, {thens(0, a)}}, 1955, 0, map[string]int{"peek0:1 peek1:9": 1955}},
		{1, []call{alters(0, plus("M", 2))}, [][]call{{completes(0, 1, nil)}, {completes(1, 9, nil)}}, 37, 0, map[string]int{"peek0:1 peek1:3": 3, "peek0:1 peek1:9": 34}},
		{1, slices.Repeat([]call{thens(0, quiet("F"))}, 63), [][]call{{thens(0, a)}, {alters(0, plus("M", 1))}}, 14, 0, map[string]int{"peek0:none": 7, "peek0:none peek1:none": 7}},
	} {
		dead, ends := 0, map[string]int{}
		runs := aid.Every(99, func(picks []int) []int {
			p := newPair(t, row.n, row.first)
			r := p.run(t, row.calls, picks, len(picks))
			if r.End == api.Dead {
				dead++
			} else {
				ends[p.is.cameTo()]++
			}
			if p.ends(t); t.Failed() || r.End == api.Cut {
				t.Fatalf("behind %v: %v: %v: %s", texts(row.first), row.calls, picks, aid.Texts(r.Log))
			}
			return r.Ready
		})
		if runs != row.runs || dead != row.dead || !maps.Equal(ends, row.ends) {
			t.Errorf("behind %v, %v: %d schedules, of which %d are dead, the others end with %#v", texts(row.first), row.calls, runs, dead, ends)
		}
	}
}

// TestSomebodyFills: runs in which each future is completed by somebody who does not wait, and no function waits, or panics: none is dead, nobody awaits for ever.
func TestSomebodyFills(t *testing.T) {
	slept := 0
	for seed := range int64(4000) {
		r := rand.New(rand.NewSource(seed))
		m := &maker{Rand: r, futures: 1 + r.Intn(4)}
		first := m.calls(4, 2, []int{then, alter, alter})
		var doers []call
		for i := range m.futures {
			doers = append(doers, completes(i, int64(i), aid.Some(r.Intn, []error{nil, nil, io.EOF})))
		}
		r.Shuffle(len(doers), func(i, j int) { doers[i], doers[j] = doers[j], doers[i] })
		n := r.Intn(len(doers) + 1)
		calls := [][]call{doers[:n], doers[n:]}
		for range 1 + r.Intn(4) {
			calls = append(calls, m.calls(5, 2, aid.Some(r.Intn, [][]int{{await}, {await, alter}, {complete, await, then}, {alter, await, peek, await}})))
		}
		r.Shuffle(len(calls), func(i, j int) { calls[i], calls[j] = calls[j], calls[i] })
		for _, l := range append(calls, first) {
			for _, c := range l {
				if c.op == then && c.does != nil {
					c.does.falls = false
				}
			}
		}
		p := newPair(t, m.futures, first)
		report := p.run(t, calls, aid.Picks(r.Intn, 60), api.MaxTurns)
		for _, a := range report.Log {
			if a.Op == api.OpPark {
				slept++
			}
		}
		if p.ends(t); t.Failed() || report.End != api.Over {
			t.Fatalf("W3, what follows: seed %d: behind %v: %v: end %d: %s", seed, texts(first), calls, report.End, aid.Texts(report.Log))
		}
	}
	if slept < 1000 {
		t.Errorf("the threads are no good: %d", slept)
	}
}
