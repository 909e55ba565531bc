package cell_test

import (
	"math"
	"math/rand"
	"slices"
	"testing"

	"treadle/aid"
	"treadle/api"
	"treadle/cell"
	"treadle/gate"
)

// TestEachCallIsOneAccess: by its entry and its answer.
func TestEachCallIsOneAccess(t *testing.T) {
	for _, held := range edges {
		for _, a := range edges {
			for _, b := range []int64{0, 5, math.MinInt64} {
				for _, op := range ops {
					oneAccess(t, call{op: op, a: a, b: b}, held)
				}
			}
		}
	}
}

func oneAccess(t *testing.T, c call, held int64) {
	t.Helper()
	x := cell.New(held)
	var got answer
	did := false
	r := gate.Run(nil, 9, func(th *gate.Thread) {
		got = c.do(th, x)
		did = true
	})
	if c.op == api.OpPark && c.a == held {
		left := api.Access{Op: c.op, Cell: -1, Arg: c.a, Was: held, Now: held}
		if did || r.End != api.Dead || len(r.Log) != 0 || len(r.Left) != 1 || r.Left[0] != left {
			t.Errorf("P2.2: %+v of %d: %v, %+v", c, held, did, r)
		}
		return
	}
	now, want := c.plain(held)
	if r.End != api.Over || len(r.Log) != 1 || r.Log[0] != c.entry(0, 0, held) || got != want || len(r.Fell) != 0 || x.Load(nil) != now {
		t.Errorf("P2.2: %+v of %d answers %v, and leaves %d: %+v", c, held, got, x.Load(nil), r)
	}
}

// TestExamplesByThreads: the two below the chapter's table.
func TestExamplesByThreads(t *testing.T) {
	x, got := cell.New(0), int64(0)
	r := gate.Run(nil, 9, func(th *gate.Thread) { got = x.Park(th, 0) }, func(th *gate.Thread) { x.Store(th, 4) })
	want := []api.Access{{Thread: 1, Op: api.OpStore, Arg: 4, Now: 4}, {Thread: 0, Op: api.OpPark, Was: 4, Now: 4}}
	if !slices.Equal(r.Log, want) || r.End != api.Over || got != 4 {
		t.Errorf("P2.2: %d: %+v", got, r)
	}
	for first := range 2 {
		x, done := cell.New(0), [2]bool{}
		tries := func(th *gate.Thread) { done[th.Number()] = x.Cas(th, 0, int64(th.Number())+10) }
		r := gate.Run([]int{first}, 9, tries, tries)
		if !done[first] || done[1-first] || x.Load(nil) != int64(first)+10 || r.Turns != 2 {
			t.Errorf("P2.2: %v: %+v", done, r)
		}
	}
}

// script: what a thread calls, and what it was answered, as far as it came.
type script struct {
	calls []call
	got   []answer
}

func (s *script) body(cells []*cell.Cell) body {
	return func(t *gate.Thread) {
		for _, c := range s.calls {
			s.got = append(s.got, c.do(t, cells[c.cell]))
		}
	}
}

func someScripts(r *rand.Rand, cells, few int) []*script {
	l := make([]*script, 1+r.Intn(4))
	for i := range l {
		l[i] = &script{}
		for range r.Intn(7) {
			l[i].calls = append(l[i].calls, someCall(r, cells, few))
		}
	}
	return l
}

func bodies(scripts []*script, cells []*cell.Cell) []body {
	var l []body
	for _, s := range scripts {
		s.got = nil
		l = append(l, s.body(cells))
	}
	return l
}

// TestRuns: random threads under random picks: W1 (the record says all), W3 (of a dead run), W7 (again).
func TestRuns(t *testing.T) {
	ends := map[int8]int{}
	for seed := range int64(3000) {
		r := rand.New(rand.NewSource(seed))
		few := []int{2, 3, len(edges)}[r.Intn(3)]
		cells, held := someCells(r, few)
		scripts := someScripts(r, len(cells), few)
		picks := make([]int, r.Intn(20))
		for i := range picks {
			picks[i] = r.Intn(9) - 4
		}
		report := gate.Run(picks, []int{0, 3, 100, 100}[r.Intn(4)], bodies(scripts, cells)...)
		ends[report.End]++
		saysAll(t, report, scripts, cells, slices.Clone(held))
		for i, v := range held {
			cells[i].Store(nil, v)
		}
		again, e, _ := gate.Again(report.Went, bodies(scripts, cells)...)
		if e != api.OK || again.End != report.End || !slices.Equal(again.Log, report.Log) || !slices.Equal(again.Left, report.Left) {
			t.Errorf("W7: %d: %+v, not %+v", e, again, report)
		}
		if t.Failed() {
			t.Fatalf("seed %d", seed)
		}
	}
	if ends[api.Over] < 300 || ends[api.Dead] < 300 || ends[api.Cut] < 300 {
		t.Errorf("the threads are no good: %v", ends)
	}
}

// saysAll holds a record against the calls, one by one in its order: the entry, the answer, what the cells hold, who is left.
func saysAll(t *testing.T, r api.Report, scripts []*script, cells []*cell.Cell, held []int64) {
	t.Helper()
	at := make([]int, len(scripts))
	numbers := map[int]int{}
	for i, e := range r.Log {
		s := scripts[e.Thread]
		if at[e.Thread] == len(s.calls) || at[e.Thread] == len(s.got) {
			t.Errorf("W1: the entry %d is one too many: %+v", i, r)
			return
		}
		c := s.calls[at[e.Thread]]
		if _, met := numbers[c.cell]; !met {
			numbers[c.cell] = len(numbers)
		}
		if c.op == api.OpPark && held[c.cell] == c.a {
			t.Errorf("P2.2: a Park on %d that the cell holds is done: %+v", c.a, e)
		}
		now, want := c.plain(held[c.cell])
		if e != c.entry(e.Thread, numbers[c.cell], held[c.cell]) || s.got[at[e.Thread]] != want || r.Went[i] != e.Thread {
			t.Errorf("W1: the call %+v of %d answers %v, its entry is %+v", c, held[c.cell], s.got[at[e.Thread]], e)
		}
		held[c.cell] = now
		at[e.Thread]++
	}
	for i, x := range cells {
		if n := x.Load(nil); n != held[i] {
			t.Errorf("W1: the cell %d holds %d in the end, not %d", i, n, held[i])
		}
	}
	saysWhoIsLeft(t, r, scripts, at, held)
}

func saysWhoIsLeft(t *testing.T, r api.Report, scripts []*script, at []int, held []int64) {
	t.Helper()
	var left []int
	for n, s := range scripts {
		if len(s.got) != at[n] {
			t.Errorf("P2.2: the thread %d was answered %d calls, %d are told", n, len(s.got), at[n])
		}
		if at[n] < len(s.calls) {
			left = append(left, n)
		}
	}
	var told []int
	for _, a := range r.Left {
		told = append(told, a.Thread)
		c := scripts[a.Thread].calls[at[a.Thread]]
		if a.Op != c.op || a.Was != held[c.cell] || a.Now != held[c.cell] {
			t.Errorf("W1: the thread %d stands at %+v, by the report at %+v", a.Thread, c, a)
		}
		if r.End == api.Dead && (a.Op != api.OpPark || a.Was != a.Arg) {
			t.Errorf("W3: a run is dead, and one is left who could go on: %+v", a)
		}
	}
	if !slices.Equal(told, left) || r.End == api.Over && len(left) > 0 || r.End == api.Dead && len(left) == 0 {
		t.Errorf("W3: %d, left are %v, told %v", r.End, left, told)
	}
}

// TestStopped: each call of a stopped thread panics with the gate's own value, and does nothing.
func TestStopped(t *testing.T) {
	x := cell.New(3)
	own := 0
	r := gate.Run(nil, 0, func(th *gate.Thread) {
		for range 2 { // the first time it is stopped where it stands, then at each call
			for _, op := range ops {
				for _, a := range []int64{3, 8} {
					func() {
						defer func() {
							if gate.Is(recover()) {
								own++
							}
						}()
						call{op: op, a: a, b: 9}.do(th, x)
					}()
				}
			}
		}
	})
	if own != 2*2*len(ops) || x.Load(nil) != 3 || len(r.Log) != 0 || r.End != api.Cut || len(r.Left) != 1 || len(r.Fell) != 0 {
		t.Errorf("R1: %d panics, the cell holds %d: %+v", own, x.Load(nil), r)
	}
}

// TestFreeWithinARun: a call that is handed a thread that has ended, or none, is no access of the thread in whose goroutine it is.
func TestFreeWithinARun(t *testing.T) {
	own := cell.New(0)
	r := gate.Run(nil, 99, func(th *gate.Thread) {
		for what, other := range aid.NotLiving() {
			x := cell.New(6)
			for _, c := range []call{{op: api.OpLoad}, {op: api.OpStore, a: 2}, {op: api.OpCas, a: 2, b: 5}, {op: api.OpAdd, a: 1}, {op: api.OpSwap, a: 9}, {op: api.OpPark, a: 8}} {
				_, want := c.plain(x.Load(nil))
				if got := c.do(other, x); got != want {
					t.Errorf("P2.3: %s: %+v answers %v, not %v", what, c, got, want)
				}
			}
		}
		own.Add(th, 1)
	})
	if r.Turns != 1 || len(r.Log) != 1 || r.End != api.Over {
		t.Errorf("P2.3: %+v", r)
	}
}

// TestOneCellManyRuns: a cell may be free, then under one gate, then under another: each has a number of its own for it.
func TestOneCellManyRuns(t *testing.T) {
	x, y := cell.New(0), cell.New(0)
	first := gate.Run(nil, 9, func(th *gate.Thread) { y.Load(th); x.Add(th, 2) })
	x.Add(nil, 3)
	second := gate.Run(nil, 9, func(th *gate.Thread) { x.Add(th, 4) })
	if first.Log[1] != (api.Access{Op: api.OpAdd, Cell: 1, Arg: 2, Now: 2}) || second.Log[0] != (api.Access{Op: api.OpAdd, Arg: 4, Was: 5, Now: 9}) {
		t.Errorf("P2.2: %+v, %+v", first.Log, second.Log)
	}
}
