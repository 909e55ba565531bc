package list_test

import (
	"math/rand"
	"slices"
	"strings"
	"testing"

	"treadle/aid"
	"treadle/api"
	"treadle/gate"
	"treadle/list"
)

// The chapter's steps once more, along records: what a run tells and answers is held against them.

const (
	lastCell = iota
	headCell
)

// placed: what belongs to a place.
type placed struct{ v, ahead int64 }

// did: a call along a record: where it is there, which place it was given, and where it put that on, or closed the list.
type did struct {
	aid.Span
	call   call
	answer answer
	k      int64 // 0: none
	on     int   // the place of that access; -1: none
	vain   []int // the places of those by which it did not put on
}

// world: threads that call a list, and what comes of them.
type world struct {
	most    int
	x       *list.List[int64]
	held    map[int]int64 // what the cells hold ahead of the run
	places  map[int64]placed
	threads aid.Scripts[call, answer]
	did     []*did // those that began, along the record
}

// newWorld: of a list of so many places, that one thread made the first calls of.
func newWorld(most int, first []call, calls [][]call) *world {
	w := &world{most: most, x: newList(most), held: map[int]int64{lastCell: 0, headCell: 0}, places: map[int64]placed{}}
	ahead := w.behind(w.held, [][]call{first})
	held, _ := ahead.ends(gate.Run(nil, api.MaxTurns, ahead.threads.Bodies()...))
	return w.behind(held, calls)
}

// behind: threads that call the same list, when its cells hold these.
func (w *world) behind(held map[int]int64, calls [][]call) *world {
	b := &world{most: w.most, x: w.x, held: held, places: w.places}
	b.threads = aid.Scripts[call, answer]{Calls: calls, Do: func(t *gate.Thread, c call) answer { return do(b.x, t, c) }, Steps: b.steps}
	return b
}

func (w *world) steps(s *aid.Steps, c call) answer {
	d := &did{call: c, on: -1}
	w.did = append(w.did, d)
	s.Span(&d.Span, func() {
		switch c.op {
		case add:
			d.adds(s, w)
		case shut:
			d.closes(s, w)
		case look:
			d.looks(s, w)
		}
	})
	return d.answer
}

func (d *did) adds(s *aid.Steps, w *world) {
	h := s.Load(headCell)
	if h == -1 {
		d.answer = gone
		return
	}
	d.k = s.Add(lastCell, 1)
	if d.k > int64(w.most) {
		d.answer = full
		return
	}
	for !d.puts(s, h) {
		if h = s.Load(headCell); h == -1 {
			d.answer = gone
			return
		}
	}
	w.places[d.k] = placed{d.call.v, h}
	d.answer = at(int(d.k))
}

// puts: whether the place is put on.
func (d *did) puts(s *aid.Steps, h int64) (ok bool) {
	var here aid.Span
	s.Span(&here, func() { ok = s.Cas(headCell, h, d.k) })
	if ok {
		d.on = here.First
	} else {
		d.vain = append(d.vain, here.First)
	}
	return ok
}

func (d *did) closes(s *aid.Steps, w *world) {
	h := s.Swap(headCell, -1)
	if h == -1 {
		d.answer = gone
		return
	}
	d.on, d.answer = d.First, answer{row: w.row(h)}
}

func (d *did) looks(s *aid.Steps, w *world) {
	h := s.Load(headCell)
	if h == -1 {
		d.answer = ended
		return
	}
	d.answer = answer{row: w.row(h)}
}

// row: by the chapter's words.
func (w *world) row(k int64) string {
	var l []int64
	for k > 0 && len(l) <= w.most {
		l = append(l, w.places[k].v)
		k = w.places[k].ahead
	}
	slices.Reverse(l)
	return aid.Line(l)
}

// ends: what the cells hold at the end, and what was found in the report. It goes through it twice: a row may have values of threads that are gone through behind the one that tells it.
func (w *world) ends(r api.Report) (map[int]int64, []string) {
	w.threads.Ends(r, w.held)
	w.did = nil
	return w.threads.Ends(r, w.held)
}

// run plays the threads, and holds what comes of it against the steps, and what follows.
func (w *world) run(t *testing.T, picks []int, most int) api.Report {
	t.Helper()
	r := gate.Run(picks, most, w.threads.Bodies()...)
	ends, faults := w.ends(r)
	if r.End == api.Dead || r.End == api.Cut && r.Turns < most || len(r.Fell) != 0 {
		t.Errorf("R1, W3: %+v", r)
	}
	faults = append(faults, w.follows(len(r.Log), ends)...)
	calls := tells(w.most)
	behind := w.behind(ends, [][]call{calls})
	if _, l := behind.ends(gate.Run(nil, api.MaxTurns, behind.threads.Bodies()...)); len(l) > 0 {
		faults = append(append(faults, "the list is not what the record says"), l...)
	}
	if !asPlain(w.plain(ends), calls, behind.threads.Got[0]) {
		t.Errorf("what follows: behind it: %v", behind.threads.Got[0])
	}
	for _, f := range faults {
		t.Errorf("W1, what follows: %s", f)
	}
	return r
}

// plain: what the list is where its cells hold these.
func (w *world) plain(held map[int]int64) plain {
	return plain{most: w.most, given: int(held[lastCell]), closed: held[headCell] == -1, row: w.row(held[headCell])}
}

// follows: what does not, of that what the chapter says follows: by the changes of the head, in their order.
func (w *world) follows(log int, ends map[int]int64) (faults []string) {
	fault := func(is bool, what string) {
		if is {
			faults = append(faults, what)
		}
	}
	as := w.plain(w.held)
	for i := range log {
		for _, d := range w.did {
			switch {
			case d.on == i && d.call.op == add:
				fault(as.closed, "a value is put on a list that is closed")
				as.row += aid.Line([]int64{d.call.v})
			case d.on == i:
				fault(as.closed || d.answer.row != as.row, "a Close does not tell of what was added: "+d.answer.row)
				as.closed, as.row = true, ""
			case d.Last == i && as.closed:
				fault(d.call.op == look && d.answer != ended, "an Each does not tell that the list is closed")
				fault(d.call.op == shut && d.answer != gone, "a Close is not told that the list is closed")
				fault(d.call.op == add && d.answer != gone && d.answer != full, "an Add is not told that the list is closed")
			case d.Last == i && d.call.op == look:
				fault(d.answer.row != as.row, "an Each does not tell of what was added: "+d.answer.row)
			}
		}
	}
	fault(as.closed != (ends[headCell] == -1) || as.row != w.row(ends[headCell]), "the list has not what was added")
	fault(!w.numbered(ends), "a number is given out twice, or never")
	fault(slices.ContainsFunc(w.did, w.idles), "an Add went back, and nobody had changed the head")
	return faults
}

// numbered: whether just the numbers behind those of the beginning were given out, each once.
func (w *world) numbered(ends map[int]int64) bool {
	var given []int64
	for _, d := range w.did {
		if d.k != 0 {
			given = append(given, d.k)
		}
	}
	return aid.EachOnce(given, w.held[lastCell], ends[lastCell])
}

// idles: whether a call went back more often than others changed the head meanwhile.
func (w *world) idles(d *did) bool {
	changes := 0
	for _, o := range w.did {
		if o != d && o.on > d.First && o.on < d.Last {
			changes++
		}
	}
	return len(d.vain) > changes
}

// counts what was met in a run.
func (w *world) counts(r api.Report, met map[string]int) {
	for _, d := range w.did {
		for _, at := range d.vain {
			met["forestalled by "+map[bool]string{true: "a Close", false: "an Add"}[r.Log[at].Was == -1]]++
		}
		what := []string{"Add", "Close", "Each"}[d.call.op]
		switch {
		case d.Last >= len(r.Log):
			if d.k != 0 {
				met["stopped, with a number"]++
			}
		case d.answer == full:
			met["full: "+w.reason(d)]++
		case d.k != 0 && d.on < 0:
			met["closed in its midst"]++
		case d.answer == gone || d.answer == ended:
			met[what+": closed"]++
		default:
			met[what+": done"]++
		}
	}
}

// reason: what the list is when an Add is told that it is full.
func (w *world) reason(d *did) string {
	head, last := w.held[headCell], -1
	for _, o := range w.did {
		if o.on > last && o.on < d.Last {
			head, last = o.k, o.on
			if o.call.op == shut {
				head = -1
			}
		}
	}
	switch {
	case head == -1:
		return "closed in its midst"
	case strings.Count(w.row(head), " ") < w.most:
		return "others have places that are not on"
	}
	return "all are on"
}

// TestRuns: random threads under random picks, and again.
func TestRuns(t *testing.T) {
	const enough = 5000
	ended, met := map[int8]int{}, map[string]int{}
	for seed := range int64(8000) {
		r := rand.New(rand.NewSource(seed))
		of := aid.Some(r.Intn, []int{0, 1, 2, 3, 4, 8, 20, 40})
		first, calls := someCalls(r, of)
		most := []int{0, 9, 20, enough, enough, enough}[r.Intn(6)]
		w := newWorld(of, first, calls)
		picks := aid.Mixed(seed, r.Intn, 60, []int{1, 2, 3, 4, 5, 8})
		report := w.run(t, picks, most)
		if most == enough && report.End != api.Over {
			t.Errorf("R1: %d turns are not enough", most)
		}
		second, e, _ := gate.Again(report.Went, newWorld(of, first, calls).threads.Bodies()...)
		if e != api.OK || !aid.Same(second, report) {
			t.Errorf("W7: %d: %+v, not %+v", e, second, report)
		}
		if t.Failed() {
			t.Fatalf("seed %d: of %d places behind %+v: %+v: %s", seed, of, first, calls, aid.Texts(report.Log))
		}
		ended[report.End]++
		w.counts(report, met)
	}
	if ended[api.Over] < 4000 || ended[api.Cut] < 1000 {
		t.Errorf("the threads are no good: %v", ended)
	}
	for _, what := range []string{"Add: done", "Add: closed", "Close: done", "Close: closed", "Each: done", "Each: closed", "forestalled by an Add", "forestalled by a Close", "closed in its midst", "full: all are on", "full: others have places that are not on", "full: closed in its midst", "stopped, with a number"} {
		if met[what] < 300 {
			t.Errorf("the threads are no good: %s in %v", what, met)
		}
	}
}

// someCalls: those that one thread makes of a list of so many places ahead of a run; and those of some threads.
func someCalls(r *rand.Rand, of int) (first []call, calls [][]call) {
	some := func(most int, ops []int) (l []call) {
		for range r.Intn(most + 1) {
			l = append(l, call{op: aid.Some(r.Intn, ops), v: aid.Some(r.Intn, aid.Values())})
		}
		return l
	}
	first = some(min(of, 9)+1, []int{add})
	if r.Intn(40) == 0 {
		first = append(first, closes)
	}
	ops := aid.Some(r.Intn, [][]int{{add}, {add, look}, {add, add, add, add, look, look, shut}, {add, add, add, add, add, add, add, shut}, {add, look, shut}})
	for range 1 + r.Intn(5) {
		calls = append(calls, some(6, ops))
	}
	return first, calls
}

// TestEverySchedule: small threads under all schedules.
func TestEverySchedule(t *testing.T) {
	one := []call{adds(1)}
	for _, row := range []struct {
		most   int
		first  []call
		calls  [][]call
		runs   int // so many schedules there are
		vainly int // in so many somebody is forestalled
		lost   int // in so many an Add is told behind its number that the list is closed
		fails  int // in so many an Add is refused for want of places
	}{
		{9, nil, [][]call{{adds(7)}, {adds(8)}}, 20, 18, 0, 0},
		{3, one, [][]call{{adds(7)}, {adds(8)}}, 20, 18, 0, 0},
		{1, nil, [][]call{{adds(7)}, {adds(8)}}, 14, 0, 0, 14},
		{0, nil, [][]call{{adds(7)}, {adds(8), closes}}, 10, 0, 0, 10},
		{9, nil, [][]call{{adds(7)}, {closes}}, 4, 2, 2, 0},
		{9, one, [][]call{{adds(7)}, {looks, closes}}, 10, 5, 5, 0},
		{9, nil, [][]call{{adds(7)}, {closes}, {closes}}, 20, 14, 14, 0},
		{9, one, [][]call{{adds(7), looks}, {adds(8), looks}}, 106, 96, 0, 0},
		{9, nil, [][]call{{adds(7)}, {adds(8)}, {closes}}, 238, 232, 214, 0},
		{1, nil, [][]call{{adds(7)}, {adds(8)}, {closes}}, 76, 50, 50, 58},
		{9, one, [][]call{{adds(7), adds(6)}, {adds(8), looks}}, 696, 684, 0, 0},
		{9, nil, [][]call{{adds(7)}, {adds(8)}, {adds(9)}}, 15630, 15624, 0, 0},
		{2, nil, [][]call{{adds(7)}, {adds(8)}, {adds(9)}}, 1878, 1800, 0, 1878},
	} {
		vainly, lost, fails := 0, 0, 0
		runs := aid.Every(60, func(picks []int) []int {
			w := newWorld(row.most, row.first, row.calls)
			r := w.run(t, picks, len(picks))
			if t.Failed() || r.End != api.Over {
				t.Fatalf("of %d places: %+v: %v: %s", row.most, row.calls, picks, aid.Texts(r.Log))
			}
			if slices.ContainsFunc(w.did, func(d *did) bool { return len(d.vain) > 0 }) {
				vainly++
			}
			if slices.ContainsFunc(w.did, func(d *did) bool { return d.k != 0 && d.answer == gone }) {
				lost++
			}
			if slices.ContainsFunc(w.did, func(d *did) bool { return d.answer == full }) {
				fails++
			}
			return r.Ready
		})
		if runs != row.runs || vainly != row.vainly || lost != row.lost || fails != row.fails {
			t.Errorf("of %d places behind %+v, %+v: %d schedules, in %d one is forestalled, in %d a number is lost, in %d one is refused", row.most, row.first, row.calls, runs, vainly, lost, fails)
		}
	}
}
