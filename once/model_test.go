package once_test

import (
	"math/rand"
	"slices"
	"testing"

	"treadle/aid"
	"treadle/api"
	"treadle/cell"
	"treadle/gate"
	"treadle/once"
)

// The chapter's steps once more, along records: what a run tells and answers is held against them.

// call: Do of one of several Onces, with an f that does so many Adds, then calls of its own, and panics or doesn't; or Done.
type call struct {
	once  int
	done  bool
	adds  int
	calls []call
	falls bool
}

func someCalls(r *rand.Rand, onces, deep int) []call {
	l := make([]call, r.Intn(4))
	for i := range l {
		l[i] = call{once: r.Intn(onces), done: r.Intn(4) == 0, adds: r.Intn(3), falls: r.Intn(3) == 0}
		if deep > 0 && r.Intn(3) == 0 {
			l[i].calls = someCalls(r, onces, deep-1)
		}
	}
	return l
}

// world: threads that make such calls, and what comes of them.
type world struct {
	onces   []*once.Once
	x       *cell.Cell
	scripts [][]call
	open    []bool       // the thread does not recover what comes out of its own calls
	got     [][]answer   // of each thread, as its calls are answered
	ran     []int        // how often an f of each Once was called
	ended   map[int]bool // the Onces of which an f has ended
}

func newWorld(onces int, scripts [][]call, open []bool) *world {
	w := &world{x: cell.New(0), scripts: scripts, open: open, got: make([][]answer, len(scripts)), ran: make([]int, onces), ended: map[int]bool{}}
	for range onces {
		w.onces = append(w.onces, once.New())
	}
	return w
}

func (w *world) bodies() []body {
	var l []body
	for i, s := range w.scripts {
		l = append(l, func(t *gate.Thread) {
			for _, c := range s {
				w.call(t, c)
				if last := w.got[i][len(w.got[i])-1]; w.open[i] && last.fell != nil {
					panic(last.fell)
				}
			}
		})
	}
	return l
}

func (w *world) call(t *gate.Thread, c call) {
	var a answer
	if c.done {
		a = isDone(t, w.onces[c.once])
	} else {
		a = do(t, w.onces[c.once], func(t *gate.Thread) { w.f(t, c) })
	}
	w.got[t.Number()] = append(w.got[t.Number()], a)
}

func (w *world) f(t *gate.Thread, c call) {
	w.ran[c.once]++
	for range c.adds {
		w.x.Add(t, 1)
	}
	for _, in := range c.calls {
		w.call(t, in)
	}
	w.ended[c.once] = true
	if c.falls {
		panic(c.once)
	}
}

// thread goes through the steps of the calls of one thread: what they are answered, as far as the record has them, and whether the thread falls.
func (w *world) thread(s *aid.Steps, n int, got *[]answer, fell *bool) {
	for _, c := range w.scripts[n] {
		w.steps(s, c, got)
		if w.open[n] && (*got)[len(*got)-1].fell != nil {
			*fell = true
			return
		}
	}
}

func (w *world) steps(s *aid.Steps, c call, got *[]answer) {
	var a answer
	if c.done {
		was := s.Load(c.once)
		a.ok = was == 2
		if was == 3 {
			a.e = api.ErrFell
		}
	} else {
		a = w.stepsOfDo(s, c, got)
	}
	*got = append(*got, a)
}

func (w *world) stepsOfDo(s *aid.Steps, c call, got *[]answer) answer {
	for {
		switch s.Load(c.once) {
		case 2:
			return answer{}
		case 3:
			return answer{e: api.ErrFell}
		case 1:
			s.Park(c.once, 1)
		default:
			if s.Cas(c.once, 0, 1) {
				return w.stepsOfF(s, c, got)
			}
		}
	}
}

func (w *world) stepsOfF(s *aid.Steps, c call, got *[]answer) answer {
	for range c.adds {
		s.Add(len(w.onces), 1)
	}
	for _, in := range c.calls {
		w.steps(s, in, got)
	}
	if c.falls {
		s.Store(c.once, 3)
		return answer{fell: c.once}
	}
	s.Store(c.once, 2)
	return answer{ok: true}
}

// holds holds a report and the answers against the steps, the cells' values, and what follows.
func (w *world) holds(t *testing.T, r api.Report) {
	t.Helper()
	record := aid.Of(r)
	var fell []int
	for n := range w.scripts {
		var got []answer
		falls := false
		record.Thread(n, func(s *aid.Steps) { w.thread(s, n, &got, &falls) })
		if falls {
			fell = append(fell, n)
		}
		if !slices.Equal(w.got[n], got) {
			t.Errorf("P3.1: the thread %d is answered %v, by its steps it is %v", n, w.got[n], got)
		}
	}
	if !slices.Equal(r.Fell, fell) {
		t.Errorf("P3.1: %v fell, told are %v", fell, r.Fell)
	}
	ends := record.Ends(map[int]int64{})
	for i, o := range w.onces {
		if a := isDone(nil, o); a.ok != (ends[i] == 2) || (a.e == api.ErrFell) != (ends[i] == 3) {
			t.Errorf("W1: the Once %d is left as %d, behind the run: %v", i, ends[i], a)
		}
	}
	for _, f := range record.Faults() {
		t.Errorf("W1: %s", f)
	}
	w.follows(t, r)
}

// follows: f is called at most once; nobody sleeps when it has ended.
func (w *world) follows(t *testing.T, r api.Report) {
	t.Helper()
	for i, o := range w.onces {
		if w.ran[i] > 1 {
			t.Errorf("what follows: f of the Once %d is called %d times", i, w.ran[i])
		}
		if r.End == api.Dead && w.ended[i] && isDone(nil, o) == (answer{}) {
			t.Errorf("what follows: dead, but f of the Once %d has ended", i)
		}
	}
}

// TestRuns: random threads under random picks, and again.
func TestRuns(t *testing.T) {
	ends, ops, errs := map[int8]int{}, map[int8]int{}, 0
	for seed := range int64(4000) {
		r := rand.New(rand.NewSource(seed))
		onces := 1 + r.Intn(3)
		scripts, open := make([][]call, 1+r.Intn(4)), make([]bool, 4)
		for i := range scripts {
			scripts[i], open[i] = someCalls(r, onces, 2), r.Intn(3) == 0
		}
		w := newWorld(onces, scripts, open)
		report := gate.Run(aid.Picks(r.Intn, 29), []int{0, 9, 500, 500}[r.Intn(4)], w.bodies()...)
		w.holds(t, report)
		second := newWorld(onces, scripts, open)
		again, e, _ := gate.Again(report.Went, second.bodies()...)
		if e != api.OK || !aid.Same(again, report) {
			t.Errorf("W7: %d: %+v, not %+v", e, again, report)
		}
		ends[report.End]++
		for _, a := range report.Log {
			ops[a.Op]++
		}
		for _, got := range slices.Concat(w.got...) {
			errs += int(got.e) / int(api.ErrFell)
		}
		if t.Failed() {
			t.Fatalf("seed %d: %+v, %v: %s", seed, scripts, open, aid.Texts(report.Log))
		}
	}
	if ends[api.Over] < 300 || ends[api.Dead] < 100 || ends[api.Cut] < 300 || ops[api.OpPark] < 300 || errs < 300 {
		t.Errorf("the threads are no good: %v, %v, %d", ends, ops, errs)
	}
}

// TestEverySchedule: small threads under all schedules.
func TestEverySchedule(t *testing.T) {
	add, empty, fall := call{adds: 1}, call{}, call{falls: true}
	for _, row := range []struct {
		scripts [][]call
		runs    int // so many schedules there are
	}{
		{[][]call{{add}, {add}}, 30},
		{[][]call{{add, {done: true}}, {fall, add}}, 84},
		{[][]call{{empty}, {fall}, {{done: true}}}, 116},
		{[][]call{{empty}, {empty}, {fall}}, 1992},
		{[][]call{{{once: 0, calls: []call{{once: 1}}}}, {{once: 1, calls: []call{{once: 0}}}}}, 110}, // each within the other: some end dead
	} {
		trues := 0
		runs := aid.Every(60, func(picks []int) []int {
			w := newWorld(2, row.scripts, make([]bool, len(row.scripts)))
			r := gate.Run(picks, len(picks), w.bodies()...)
			w.holds(t, r)
			for _, a := range slices.Concat(w.got...) {
				if a.ok {
					trues++
				}
			}
			if t.Failed() || r.End == api.Cut {
				t.Fatalf("%+v: %v: %s", row.scripts, picks, aid.Texts(r.Log))
			}
			return r.Ready
		})
		if runs != row.runs || trues == 0 {
			t.Errorf("%+v: %d schedules, %d true", row.scripts, runs, trues)
		}
	}
}
