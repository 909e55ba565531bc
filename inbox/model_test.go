package inbox_test

import (
	"math/rand"
	"slices"
	"testing"

	"treadle/aid"
	"treadle/api"
	"treadle/gate"
	"treadle/inbox"
)

// The chapter's steps once more, along records: what a run tells and answers is held against them.

const (
	lastCell = iota
	headCell
)

// laid: what belongs to an item.
type laid struct{ v, link int64 }

// did: a call along a record: where it is there, which number it was given, and where it laid that on the head, or took the head.
type did struct {
	aid.Span
	call   call
	answer answer
	n      int64      // 0: none
	on     int        // the place of that access; -1: none
	tries  []aid.Span // of a Put: each from its Load of the head to its Cas; all but the last one were in vain
}

// world: threads that call an inbox, and what comes of them.
type world struct {
	most    int
	x       *inbox.Inbox[int64]
	held    map[int]int64 // what the cells hold ahead of the run
	items   map[int64]laid
	threads aid.Scripts[call, answer]
	did     []*did // those that began, along the record
}

// newWorld: of an inbox of so many items, that one thread made the first calls of.
func newWorld(most int, first []call, calls [][]call) *world {
	w := &world{most: most, x: newInbox(most), held: map[int]int64{lastCell: 0, headCell: 0}, items: map[int64]laid{}}
	ahead := w.behind(w.held, [][]call{first})
	held, _ := ahead.ends(gate.Run(nil, api.MaxTurns, ahead.threads.Bodies()...))
	return w.behind(held, calls)
}

// behind: threads that call the same inbox, when its cells hold these.
func (w *world) behind(held map[int]int64, calls [][]call) *world {
	b := &world{most: w.most, x: w.x, held: held, items: w.items}
	b.threads = aid.Scripts[call, answer]{Calls: calls, Do: func(t *gate.Thread, c call) answer { return do(b.x, t, c) }, Steps: b.steps}
	return b
}

func (w *world) steps(s *aid.Steps, c call) answer {
	d := &did{call: c, on: -1}
	w.did = append(w.did, d)
	s.Span(&d.Span, func() {
		switch c.op {
		case put:
			d.puts(s, w)
		case take:
			d.answer = answer{row: w.row(s.Swap(headCell, 0))}
			d.on = d.First
		case begun:
			d.answer = at(min(int(s.Load(lastCell)), w.most))
		}
	})
	return d.answer
}

func (d *did) puts(s *aid.Steps, w *world) {
	if d.n = s.Add(lastCell, 1); d.n > int64(w.most) {
		d.answer = full
		return
	}
	for d.on < 0 {
		var here aid.Span
		s.Span(&here, func() {
			h := s.Load(headCell)
			if s.Cas(headCell, h, d.n) {
				w.items[d.n] = laid{d.call.v, h}
				d.answer = at(int(d.n))
			}
		})
		if d.tries = append(d.tries, here); d.answer.n != 0 {
			d.on = here.Last
		}
	}
}

// row: of the chain of n, by the chapter's words.
func (w *world) row(n int64) string {
	var l []int64
	for n > 0 && len(l) <= w.most {
		l = append(l, w.items[n].v)
		n = w.items[n].link
	}
	slices.Reverse(l)
	return aid.Line(l)
}

// ends: what the cells hold at the end, and what was found in the report. It goes through it twice: a Take may have items of threads that are gone through behind the one that takes them.
func (w *world) ends(r api.Report) (map[int]int64, []string) {
	w.threads.Ends(r, w.held)
	w.did = nil
	return w.threads.Ends(r, w.held)
}

// run plays the threads, and holds what comes of it against the steps, and what follows.
func (w *world) run(t *testing.T, picks []int, most int) api.Report {
	t.Helper()
	r := gate.Run(picks, most, w.threads.Bodies()...)
	ends, faults := w.ends(r)
	if r.End == api.Dead || r.End == api.Cut && r.Turns < most || len(r.Fell) != 0 {
		t.Errorf("R1: %+v", r)
	}
	faults = append(faults, w.follows(r.Log, ends)...)
	calls := tells(w.most)
	behind := w.behind(ends, [][]call{calls})
	if _, l := behind.ends(gate.Run(nil, api.MaxTurns, behind.threads.Bodies()...)); len(l) > 0 {
		faults = append(append(faults, "the inbox is not what the record says"), l...)
	}
	if as := (plain{w.most, int(ends[lastCell]), w.row(ends[headCell])}); !asPlain(as, calls, behind.threads.Got[0]) {
		t.Errorf("what follows: behind it: %v", behind.threads.Got[0])
	}
	for _, f := range faults {
		t.Errorf("W1, what follows: %s", f)
	}
	return r
}

// follows: what does not, of that what the chapter says follows: by the changes of the head, in their order.
func (w *world) follows(log []api.Access, ends map[int]int64) (faults []string) {
	fault := func(is bool, what string) {
		if is {
			faults = append(faults, what)
		}
	}
	there, used := w.row(w.held[headCell]), int(w.held[lastCell])
	for i := range log {
		for _, d := range w.did {
			switch {
			case d.on == i && d.call.op == take:
				fault(d.answer.row != there, "a Take has not what was put: "+d.answer.row)
				there = ""
			case d.on == i:
				there += aid.Line([]int64{d.call.v})
			case d.First == i && d.call.op == put:
				used++
			case d.First == i && d.Last == i && d.call.op == begun:
				fault(d.answer.n != min(used, w.most), "a Begun does not tell how many have begun")
			}
		}
	}
	fault(there != w.row(ends[headCell]), "what was put, and not taken, is not there")
	fault(!w.numbered(ends), "a number is given out twice, or never")
	for _, d := range w.did {
		for i, here := range d.tries {
			fault(i < len(d.tries)-1 && !w.forestalled(d, here), "a Put went round, and nobody else had put or taken")
		}
	}
	return faults
}

// numbered: whether just the numbers behind those of the beginning were given out, each once.
func (w *world) numbered(ends map[int]int64) bool {
	var given []int64
	for _, d := range w.did {
		if d.n != 0 {
			given = append(given, d.n)
		}
	}
	return aid.EachOnce(given, w.held[lastCell], ends[lastCell])
}

// forestalled: whether another call laid or took something between the Load and the Cas of a try.
func (w *world) forestalled(d *did, try aid.Span) bool {
	return slices.ContainsFunc(w.did, func(o *did) bool {
		return o != d && o.on > try.First && o.on < try.Last && (o.call.op == put || o.answer.row != "")
	})
}

// counts what was met in a run.
func (w *world) counts(r api.Report, met map[string]int) {
	for _, d := range w.did {
		for i, here := range d.tries {
			switch {
			case here.Last == len(r.Log):
			case i == len(d.tries)-1 && w.forestalled(d, here):
				met["all is taken, as it was when a Put looked"]++
			case i < len(d.tries)-1:
				met["forestalled by a "+map[bool]string{true: "Take", false: "Put"}[r.Log[here.Last].Was == 0]]++
			}
		}
		switch {
		case d.Last >= len(r.Log):
			met["stopped, with a number"] += aid.Digit(d.n != 0)
		case d.answer == full:
			met["full: "+w.reason(d)]++
		default:
			met[[]string{"Put: ", "Take: ", "Begun: "}[d.call.op]+map[bool]string{true: "done", false: "nothing"}[d.answer != answer{}]]++
		}
		if d.call.op == put && d.on >= 0 && slices.ContainsFunc(w.did, func(o *did) bool { return o.n < d.n && o.on > d.on && o.call.op == put }) {
			met["a lower number is put later"]++
		}
		if d.call.op == take && slices.ContainsFunc(w.did, func(o *did) bool { return o.call.op == put && o.First < d.on && o.Last > d.on }) {
			met["a Take in the midst of a Put"]++
		}
	}
}

// reason: what is the matter when a Put is told that the inbox is full.
func (w *world) reason(d *did) string {
	if slices.ContainsFunc(w.did, func(o *did) bool {
		return o.n != 0 && o.n <= int64(w.most) && o.First < d.First && (o.on < 0 || o.on > d.First)
	}) {
		return "others have items that they have not put as yet"
	}
	return "all are put"
}

// TestRuns: random threads under random picks, and again.
func TestRuns(t *testing.T) {
	const enough = 5000
	ended, met := map[int8]int{}, map[string]int{}
	for seed := range int64(12000) {
		r := rand.New(rand.NewSource(seed))
		of := aid.Some(r.Intn, []int{1, 2, 3, 4, 8, 20, 40})
		first, calls := someCalls(r, of)
		most := []int{0, 9, 20, enough, enough, enough}[r.Intn(6)]
		w := newWorld(of, first, calls)
		picks := aid.Mixed(seed, r.Intn, 60, []int{1, 2, 3, 4, 5, 8})
		report := w.run(t, picks, most)
		if most == enough && report.End != api.Over {
			t.Errorf("R1: %d turns are not enough", most)
		}
		anew := func() []aid.Body { return newWorld(of, first, calls).threads.Bodies() }
		for _, f := range aid.Again(report, picks, anew) {
			t.Errorf("W7: %s", f)
		}
		if t.Failed() {
			t.Fatalf("seed %d: of %d items behind %+v: %+v: %s", seed, of, first, calls, aid.Texts(report.Log))
		}
		ended[report.End]++
		w.counts(report, met)
	}
	if ended[api.Over] < 6000 || ended[api.Cut] < 2000 {
		t.Errorf("the threads are no good: %v", ended)
	}
	for _, what := range []string{
		"Put: done", "Take: done", "Take: nothing", "Begun: done", "Begun: nothing", "forestalled by a Put", "forestalled by a Take", "all is taken, as it was when a Put looked", "full: all are put",
		"full: others have items that they have not put as yet", "stopped, with a number", "a lower number is put later", "a Take in the midst of a Put",
	} {
		if met[what] < 300 {
			t.Errorf("the threads are no good: %s in %v", what, met)
		}
	}
}

// someCalls: those that one thread makes of an inbox of so many items ahead of a run; and those of some threads.
func someCalls(r *rand.Rand, of int) (first []call, calls [][]call) {
	some := func(most int, ops []int) (l []call) {
		for range r.Intn(most + 1) {
			l = append(l, call{op: aid.Some(r.Intn, ops), v: aid.Some(r.Intn, aid.Values())})
		}
		return l
	}
	first = some(min(of, 9)+1, aid.Some(r.Intn, [][]int{{put}, {put, put, take}}))
	ops := aid.Some(r.Intn, [][]int{{put}, {put, take}, {put, put, put, take}, {put, put, take, begun}, {put, take, take, begun}})
	for range 1 + r.Intn(5) {
		calls = append(calls, some(6, ops))
	}
	if r.Intn(2) == 0 { // one takes, and all others put
		for i := range calls {
			for k := range calls[i] {
				calls[i][k].op = put
			}
		}
		calls = append(calls, some(8, []int{take, take, take, begun}))
	}
	return first, calls
}

// TestEverySchedule: small threads under all schedules.
func TestEverySchedule(t *testing.T) {
	one := []call{puts(1)}
	for _, row := range []struct {
		most   int
		first  []call
		calls  [][]call
		runs   int // so many schedules there are
		vainly int // in so many somebody is forestalled
		fails  int // in so many a Put is refused
	}{
		{9, nil, [][]call{{puts(7)}, {puts(8)}}, 20, 12, 0},
		{3, one, [][]call{{puts(7)}, {puts(8)}}, 20, 12, 0},
		{1, nil, [][]call{{puts(7)}, {puts(8)}}, 6, 0, 6},
		{1, one, [][]call{{puts(7)}, {puts(8), takes}}, 3, 0, 3},
		{9, nil, [][]call{{puts(7)}, {takes}}, 4, 0, 0},
		{9, one, [][]call{{puts(7)}, {takes}}, 4, 1, 0},
		{9, one, [][]call{{puts(7)}, {takes, asks, takes}}, 27, 10, 0},
		{9, nil, [][]call{{puts(7)}, {takes}, {takes}}, 20, 0, 0},
		{9, one, [][]call{{puts(7), takes}, {puts(8), takes}}, 94, 68, 0},
		{2, nil, [][]call{{puts(7)}, {puts(8)}, {takes}}, 164, 104, 0}, // the chapter's
		{9, one, [][]call{{puts(7)}, {puts(8)}, {takes}}, 346, 308, 0},
		{9, nil, [][]call{{puts(7)}, {puts(8)}, {takes, takes}}, 780, 518, 0},
		{1, nil, [][]call{{puts(7)}, {puts(8)}, {takes}}, 30, 0, 30},
		{9, one, [][]call{{puts(7), puts(6)}, {puts(8), asks}}, 474, 399, 0},
		{9, one, [][]call{{puts(7), puts(6)}, {takes, takes, takes}}, 110, 53, 0},
		{9, nil, [][]call{{puts(7)}, {puts(8), takes, puts(9)}}, 364, 320, 0},
		{9, nil, [][]call{{puts(7)}, {puts(8)}, {puts(9)}}, 8376, 8208, 0},
		{2, nil, [][]call{{puts(7)}, {puts(8)}, {puts(9)}}, 342, 240, 342},
	} {
		vainly, fails := 0, 0
		runs := aid.Every(60, func(picks []int) []int {
			w := newWorld(row.most, row.first, row.calls)
			r := w.run(t, picks, len(picks))
			if t.Failed() || r.End != api.Over {
				t.Fatalf("of %d items: %+v: %v: %s", row.most, row.calls, picks, aid.Texts(r.Log))
			}
			vainly += aid.Digit(slices.ContainsFunc(w.did, func(d *did) bool { return len(d.tries) > 1 }))
			fails += aid.Digit(slices.ContainsFunc(w.did, func(d *did) bool { return d.answer == full }))
			return r.Ready
		})
		if runs != row.runs || vainly != row.vainly || fails != row.fails {
			t.Errorf("of %d items behind %+v, %+v: %d schedules, in %d one is forestalled, in %d refused", row.most, row.first, row.calls, runs, vainly, fails)
		}
	}
}
