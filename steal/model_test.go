package steal_test

import (
	"maps"
	"math"
	"math/rand"
	"slices"
	"strconv"
	"testing"

	"treadle/aid"
	"treadle/api"
	"treadle/gate"
)

// The chapter's steps once more, along records: what a run tells and answers is held against them.

// world: threads that call deques and steal from them, and what comes of it.
type world struct {
	of      []spot
	l       deques
	cells   []aid.Deque   // as the steps name them
	held    map[int]int64 // what they hold ahead of the run
	threads aid.Scripts[call, answer]
	owned   bool   // of each deque the thread of that number alone pushes and pops, and no two values are alike
	did     []*did // the calls that began, along the record, thread by thread
}

// did: a call along a record: where it is there, what it is to answer, and how often it was Lost; and each try in vain: of which deque, and where that Steal is.
type did struct {
	aid.Span
	call   call
	answer answer
	lost   int
	vain   []vain
}

type vain struct {
	aid.Span
	of int
}

func newWorld(of []spot, calls [][]call) *world {
	w := &world{of: of, l: newDeques(of...), held: map[int]int64{}}
	next := 0
	for _, x := range of {
		c := aid.Deque{First: next, Places: max(x.n, 0)}
		if next += c.Cells(); x.n > 0 {
			c.Held(w.held, x.from, x.has...)
		}
		w.cells = append(w.cells, c)
	}
	w.plays(calls)
	return w
}

// plays: from now on its threads make these calls.
func (w *world) plays(calls [][]call) {
	w.owned, w.did = true, nil
	for h, l := range calls {
		for _, c := range l {
			w.owned = w.owned && (c.op != push && c.op != pop || c.of == h)
		}
	}
	w.threads = aid.Scripts[call, answer]{Calls: calls, Do: w.l.do, Steps: w.steps}
}

// steps: of a call: what it is to answer.
func (w *world) steps(s *aid.Steps, c call) answer {
	d := &did{call: c}
	w.did = append(w.did, d)
	s.Span(&d.Span, func() { d.answer = w.stepsOf(s, d) })
	return d.answer
}

func (w *world) stepsOf(s *aid.Steps, d *did) answer {
	c := d.call
	switch c.op {
	case push:
		if !w.cells[c.of].Push(s, c.v) {
			return full
		}
		return okay
	case pop:
		if v, ok := w.cells[c.of].Pop(s); ok {
			return popped(v)
		}
		return no
	case theft:
		switch v, how := w.steal(s, c.of); how {
		case aid.StealGot:
			return stolen(v)
		case aid.StealLost:
			return lost
		}
		return no
	case one:
		if v, from, ok := w.one(s, d); ok {
			return got(from, v)
		}
		return nothing
	}
	if c.most < 1 {
		return nothing
	}
	v, from, ok := w.one(s, d)
	if !ok {
		return nothing
	}
	row := []int64{v}
	for len(row) < c.most && ok {
		if v, ok = w.try(s, d, c.l[from]); ok {
			row = append(row, v)
		}
	}
	return all(from, row...)
}

// one: P23.2.
func (w *world) one(s *aid.Steps, d *did) (v int64, from int, ok bool) {
	l, me := d.call.l, d.call.me
	n := len(l)
	if n < 1 || n > 64 || me < 0 || me >= n {
		return 0, -1, false
	}
	for i := 0; i <= n-2; i++ {
		at := (me + 1 + i) % n
		if v, ok := w.try(s, d, l[at]); ok {
			return v, at, true
		}
	}
	return 0, -1, false
}

// try: Steal, and again as long as that is Lost.
func (w *world) try(s *aid.Steps, d *did, of int) (v int64, ok bool) {
	for {
		at, how := vain{of: of}, int8(0)
		s.Span(&at.Span, func() { v, how = w.steal(s, of) })
		switch how {
		case aid.StealGot:
			return v, true
		case aid.StealNone:
			d.vain = append(d.vain, at)
			return 0, false
		}
		d.lost++
	}
}

// steal: of a deque, or of none.
func (w *world) steal(s *aid.Steps, of int) (int64, int8) {
	if of < 0 || w.of[of].n < 0 {
		return 0, aid.StealNone
	}
	return w.cells[of].Steal(s)
}

// run plays the threads, and holds what comes of it against the steps, and against what follows.
func (w *world) run(t *testing.T, picks []int, most int) api.Report {
	t.Helper()
	r := gate.Run(picks, most, w.threads.Bodies()...)
	ends, faults := w.threads.Ends(r, w.held)
	if r.End == api.Dead || r.End == api.Cut && r.Turns < most || len(r.Fell) != 0 {
		t.Errorf("R1, W3: %+v", r)
	}
	for _, d := range w.did {
		faults = append(faults, d.inVain(w, r.Log)...)
	}
	left := w.goesThrough(ends)
	faults = append(faults, left.faults...)
	if w.owned {
		faults = append(faults, w.follows(r, left.rows)...)
	}
	for _, f := range faults {
		t.Errorf("W1, what follows: %s", f)
	}
	return r
}

// left: what is in each deque behind a run; and what was found, as the cells are to hold what the record says.
type left struct {
	rows   [][]int64
	faults []string
}

// goesThrough: one thread gets all that is there, pushes one at each deque, and gets that.
func (w *world) goesThrough(ends map[int]int64) (x left) {
	behind := &world{of: w.of, l: w.l, cells: w.cells, held: ends}
	var calls []call
	for i, s := range w.of {
		x.rows = append(x.rows, nil)
		if s.n > 0 {
			calls = append(calls, somes(math.MaxInt, 0, null, i), pushes(i, -1), pushes(i, -2), ones(0, null, i), pops(i), pops(i))
		}
	}
	behind.plays([][]call{calls})
	r := gate.Run(nil, api.MaxTurns, behind.threads.Bodies()...)
	if _, faults := behind.threads.Ends(r, ends); len(faults) > 0 {
		x.faults = append([]string{"the cells hold what the record does not say"}, faults...)
	}
	for i, c := range calls {
		if c.op == some {
			x.rows[c.l[1]] = aid.OfLine(behind.threads.Got[0][i].row)
		}
	}
	return x
}

// inVain: what is found of a call's tries in vain: that the deque was empty then; and where the call got nothing, that all others of the list were, in the order of the ring.
func (d *did) inVain(w *world, log []api.Access) (faults []string) {
	if d.Last >= len(log) {
		return nil
	}
	var of []int
	for _, x := range d.vain {
		if of = append(of, x.of); x.of < 0 || w.of[x.of].n < 0 {
			continue
		}
		top, bottom := heldBehind(log, log[x.First].Cell, x.Last), heldBehind(log, log[x.Last].Cell, x.Last)
		if bottom-top > 0 || x.First < d.First || x.Last > d.Last {
			faults = append(faults, "the deque "+strconv.Itoa(x.of)+" is not empty when it is tried in vain")
		}
	}
	if c := d.call; d.answer == nothing && (c.op == one || c.op == some && c.most > 0) {
		var want []int
		for _, i := range others(len(c.l), c.me) {
			want = append(want, c.l[i])
		}
		if !slices.Equal(of, want) {
			faults = append(faults, "not all others are tried in vain")
		}
	}
	return faults
}

// heldBehind: what a cell, by its number in a log, holds behind an entry; it is met by then.
func heldBehind(log []api.Access, cell, i int) int64 {
	for log[i].Cell != cell {
		i--
	}
	return log[i].Now
}

// follows: what does not, of what the chapter says follows, where each deque has an owner: each value is got once, of the deque where it was pushed, those of a Some in that order; what nobody got is still there, if the run is over.
func (w *world) follows(r api.Report, left [][]int64) (faults []string) {
	pushed, taken := make([][]int64, len(w.of)), make([]map[int64]struct{}, len(w.of))
	for i, x := range w.of {
		pushed[i], taken[i] = slices.Clone(x.has), map[int64]struct{}{}
	}
	for _, d := range w.did {
		if d.call.op == push && d.answer == okay && d.Last < len(r.Log) {
			pushed[d.call.of] = append(pushed[d.call.of], d.call.v)
		}
	}
	for _, d := range w.did {
		row := aid.OfLine(d.answer.row)
		of := d.call.of
		if d.call.isOfSteal() && len(row) > 0 {
			of = d.call.l[d.answer.from]
		}
		if !slices.IsSorted(row) {
			faults = append(faults, "what is got does not come in the order in which it was pushed")
		}
		for _, v := range row {
			if _, is := taken[of][v]; is || !slices.Contains(pushed[of], v) {
				faults = append(faults, "what is got was not pushed there, or is got twice: "+strconv.FormatInt(v, 10))
			}
			taken[of][v] = struct{}{}
		}
	}
	for i, l := range pushed {
		rest := slices.DeleteFunc(l, func(v int64) bool { _, is := taken[i][v]; return is })
		if r.End == api.Over && !slices.Equal(rest, left[i]) {
			faults = append(faults, "of the deque "+strconv.Itoa(i)+" there is not left what nobody got")
		}
	}
	return faults
}

// maker: of random deques, and calls of them.
type maker struct {
	*rand.Rand
	far  bool // values at the ends of int64; else each is higher than those ahead of it
	made int64
}

func (m *maker) value() int64 {
	m.made++
	if m.far {
		return aid.Some(m.Intn, aid.Values())
	}
	return m.made
}

// plan: some deques, now and then one that is none.
func (m *maker) plan() (of []spot) {
	for range 1 + m.Intn(5) {
		x := spot{n: 2 << m.Intn(3), from: aid.Some(m.Intn, aid.Positions())}
		if m.Intn(8) == 0 {
			x.n = aid.Some(m.Intn, []int{null, unmade})
		}
		for range m.Intn(max(x.n, 0) + 1) {
			x.has = append(x.has, m.value())
		}
		of = append(of, x)
	}
	return of
}

// steals: a call of steal by the worker me, now and then of another list, by another one, or for nothing.
func (m *maker) steals(of []spot, me int) call {
	c := call{op: aid.Some(m.Intn, []int{one, some}), l: upTo(len(of)), me: me}
	if m.Intn(6) == 0 {
		c.l = nil
		for range m.Intn(5) {
			c.l = append(c.l, aid.Some(m.Intn, append(upTo(len(of)), null, unmade)))
		}
		c.me = m.Intn(len(c.l) + 1)
	}
	if m.Intn(20) == 0 {
		c.me = aid.Some(m.Intn, []int{-1, len(c.l), len(c.l) + 1, math.MaxInt, math.MinInt})
	}
	if c.op == some {
		c.most = aid.Some(m.Intn, []int{1, 2, 2, 3, 3, 9, math.MaxInt})
		if m.Intn(25) == 0 {
			c.most = aid.Some(m.Intn, []int{0, -1, math.MinInt})
		}
	}
	return c
}

// anybodys: a call of any kind, of whichever deque; false, if it is none that there is.
func (m *maker) anybodys(of []spot) (c call, is bool) {
	i := m.Intn(len(of))
	c = call{op: aid.Some(m.Intn, []int{push, push, push, pop, theft}), of: i}
	if m.Intn(2) == 0 {
		return m.steals(of, i), true
	}
	if c.op == push {
		c.v = m.value()
	}
	return c, of[i].n > 0
}

// calls: of owners, each of the deque of his number, and of some who only steal; or of some who do what they like.
func (m *maker) calls(of []spot, owners bool) [][]call {
	threads := len(of) + m.Intn(4)
	calls := make([][]call, threads)
	ops := aid.Some(m.Intn, [][]int{{one}, {one, push}, {one, pop}, {one, push, push, pop}, {one, one, one, theft}})
	for h := range calls {
		for range m.Intn(6) {
			op, own := aid.Some(m.Intn, ops), h < len(of) && of[h].n > 0
			switch c, is := m.anybodys(of); {
			case !owners && is:
				calls[h] = append(calls[h], c)
			case !owners:
			case op == theft:
				if i := m.Intn(len(of)); of[i].n > 0 {
					calls[h] = append(calls[h], steals(i))
				}
			case op == push && own:
				calls[h] = append(calls[h], pushes(h, m.value()))
			case op == pop && own:
				calls[h] = append(calls[h], pops(h))
			default:
				calls[h] = append(calls[h], m.steals(of, h%len(of)))
			}
		}
	}
	return calls
}

// TestRuns: random threads under random picks, and again: with owners, and without.
func TestRuns(t *testing.T) {
	const enough = 1 << 13
	ended, met := map[int8]int{}, map[string]int{}
	for seed := range int64(12000) {
		m := &maker{Rand: rand.New(rand.NewSource(seed))}
		owners := m.Intn(5) > 0
		m.far = !owners && m.Intn(2) == 0
		of := m.plan()
		calls := m.calls(of, owners)
		most := aid.Some(m.Intn, []int{0, 5, 12, 30, enough, enough, enough, enough, enough})
		picks := aid.Mixed(seed, m.Intn, 120, []int{1, 2, 3, 4, 5, 8})
		w := newWorld(of, calls)
		w.owned = w.owned && !m.far
		report := w.run(t, picks, most)
		if most == enough && report.End != api.Over {
			t.Errorf("R1: %d turns are not enough", most)
		}
		if owners && !w.owned {
			t.Error("the threads are no good: they are no owners")
		}
		for _, f := range aid.Again(report, picks, func() []aid.Body { return newWorld(of, calls).threads.Bodies() }) {
			t.Errorf("W7: %s", f)
		}
		if t.Failed() {
			t.Fatalf("seed %d: %+v: %+v: %s", seed, of, calls, aid.Texts(report.Log))
		}
		ended[report.End]++
		for _, d := range w.did {
			if d.Last < len(report.Log) {
				d.counts(met)
			}
		}
	}
	if ended[api.Over] < 6000 || ended[api.Cut] < 2000 {
		t.Errorf("the threads are no good: %v", ended)
	}
	for what, least := range map[string]int{
		"One: 1": 3000, "One: 0": 3000, "Some: 0": 3000, "Some: 1": 2000, "Some: 2": 500, "Some: as many": 1500, "Some: fewer": 1500, "Push: 0": 500, "Pop: 0": 500, "Pop: 1": 500, "Steal: 1": 500,
		"Lost": 800, "Lost, and then got": 300, "Lost, and then in vain": 300, "Lost often": 50, "got of one who is not the first": 1000,
	} {
		if met[what] < least {
			t.Errorf("the threads are no good: %s: %d, in %v", what, met[what], met)
		}
	}
}

// text: what a call got; nothing of a Push.
func (c call) text(a answer) string {
	if c.op != push && a.row == "" {
		return "no "
	}
	return a.row
}

// counts what was met in a call.
func (d *did) counts(met map[string]int) {
	n := len(aid.OfLine(d.answer.row))
	name := []string{"One", "Some", "Push", "Pop", "Steal"}[d.call.op]
	met[name+": "+strconv.Itoa(n)]++
	if !d.call.isOfSteal() {
		return
	}
	if d.call.op == some && n > 0 {
		met["Some: "+map[bool]string{true: "as many", false: "fewer"}[n == d.call.most]]++
	}
	met["Lost"] += aid.Digit(d.lost > 0)
	met["Lost often"] += aid.Digit(d.lost > 1)
	met["Lost, and then got"] += aid.Digit(d.lost > 0 && n > 0)
	met["Lost, and then in vain"] += aid.Digit(d.lost > 0 && len(d.vain) > 0)
	met["got of one who is not the first"] += aid.Digit(n > 0 && len(d.vain) > 0)
}

// TestEverySchedule: small threads under all schedules.
func TestEverySchedule(t *testing.T) {
	three := []int{0, 1, 2}
	for _, row := range []struct {
		of    []spot
		calls [][]call
		runs  int            // so many schedules there are
		told  map[string]int // what the threads get, by how many of them
	}{
		{[]spot{holds(7), none, none}, [][]call{{}, {ones(1, three...)}, {ones(2, three...)}}, 70, map[string]int{"| 7 | no | ": 35, "| no | 7 | ": 35}},
		{[]spot{holds(7, 8), none, none}, [][]call{{}, {ones(1, three...)}, {ones(2, three...)}}, 70, map[string]int{"| 7 | 8 | ": 35, "| 8 | 7 | ": 35}},
		{[]spot{holds(7), holds(9), none}, [][]call{{}, {}, {ones(2, three...)}, {ones(1, three...)}}, 70, map[string]int{"| | 7 | no | ": 35, "| | 9 | 7 | ": 35}},
		{[]spot{holds(7), none}, [][]call{{pops(0)}, {ones(1, 0, 1)}}, 127, map[string]int{"7 | no | ": 92, "no | 7 | ": 35}},
		{[]spot{holds(7, 8), none}, [][]call{{pops(0), pops(0)}, {ones(1, 0, 1)}}, 1046, map[string]int{"8 7 | no | ": 626, "8 no | 7 | ": 420}},
		{[]spot{holds(), none}, [][]call{{pushes(0, 7)}, {ones(1, 0, 1)}}, 15, map[string]int{"| 7 | ": 5, "| no | ": 10}},
		{[]spot{holds(), holds(), none}, [][]call{{pushes(0, 7)}, {}, {ones(2, three...)}}, 70, map[string]int{"| | 7 | ": 5, "| | no | ": 65}},
		{[]spot{holds(), holds(), none}, [][]call{{}, {pushes(1, 7)}, {ones(2, three...)}}, 70, map[string]int{"| | 7 | ": 35, "| | no | ": 35}},
		{[]spot{holds(7), none}, [][]call{{pops(0)}, {somes(2, 1, 0, 1)}}, 367, map[string]int{"7 | no | ": 92, "no | 7 | ": 275}},
		{[]spot{holds(7, 8), none}, [][]call{{pops(0)}, {somes(2, 1, 0, 1)}}, 576, map[string]int{"8 | 7 | ": 501, "no | 7 8 | ": 75}},
		{[]spot{holds(7), none}, [][]call{{pushes(0, 8)}, {somes(2, 1, 0, 1)}}, 210, map[string]int{"| 7 8 | ": 126, "| 7 | ": 84}},
		{[]spot{holds(7, 8), none}, [][]call{{}, {somes(2, 1, 0, 1)}, {ones(1, 0, 1)}}, 6045, map[string]int{"| 7 8 | no | ": 3535, "| 7 | 8 | ": 2475, "| 8 | 7 | ": 35}},
		{[]spot{holds(7, 8), holds(9), none}, [][]call{{ones(0, three...)}, {ones(1, three...)}}, 70, map[string]int{"9 | 7 | ": 70}},
	} {
		told := map[string]int{}
		runs := aid.Every(99, func(picks []int) []int {
			w := newWorld(row.of, row.calls)
			r := w.run(t, picks, len(picks))
			if t.Failed() || r.End != api.Over {
				t.Fatalf("%v, %+v: %v: %s", row.of, row.calls, picks, aid.Texts(r.Log))
			}
			s := ""
			for h, l := range w.threads.Got {
				for i, a := range l {
					s += row.calls[h][i].text(a)
				}
				s += "| "
			}
			told[s]++
			return r.Ready
		})
		if runs != row.runs || !maps.Equal(told, row.told) {
			t.Errorf("%v, %+v: %d schedules, that tell %#v", row.of, row.calls, runs, told)
		}
	}
}
