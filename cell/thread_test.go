package cell_test

import (
	"math"
	"math/rand"
	"slices"
	"testing"

	"treadle/aid"
	"treadle/api"
	"treadle/cell"
	"treadle/gate"
)

// TestEachCallIsOneAccess: by its entry and its answer.
func TestEachCallIsOneAccess(t *testing.T) {
	for _, held := range edges {
		for _, a := range edges {
			for _, b := range []int64{0, 5, math.MinInt64} {
				for _, op := range ops {
					oneAccess(t, call{op: op, a: a, b: b}, held)
				}
			}
		}
	}
}

func oneAccess(t *testing.T, c call, held int64) {
	t.Helper()
	x := cell.New(held)
	var got answer
	did := false
	r := gate.Run(nil, 9, func(th *gate.Thread) {
		got = c.do(th, x)
		did = true
	})
	if c.op == api.OpPark && c.a == held {
		left := api.Access{Op: c.op, Cell: -1, Arg: c.a, Was: held, Now: held}
		if did || r.End != api.Dead || len(r.Log) != 0 || len(r.Left) != 1 || r.Left[0] != left {
			t.Errorf("P2.2: %+v of %d: %v, %+v", c, held, did, r)
		}
		return
	}
	now, want := c.plain(held)
	if r.End != api.Over || len(r.Log) != 1 || r.Log[0] != c.entry(0, 0, held) || got != want || len(r.Fell) != 0 || x.Load(nil) != now {
		t.Errorf("P2.2: %+v of %d answers %v, and leaves %d: %+v", c, held, got, x.Load(nil), r)
	}
}

// TestExamplesByThreads: the two below the chapter's table.
func TestExamplesByThreads(t *testing.T) {
	x, got := cell.New(0), int64(0)
	r := gate.Run(nil, 9, func(th *gate.Thread) { got = x.Park(th, 0) }, func(th *gate.Thread) { x.Store(th, 4) })
	want := []api.Access{{Thread: 1, Op: api.OpStore, Arg: 4, Now: 4}, {Thread: 0, Op: api.OpPark, Was: 4, Now: 4}}
	if !slices.Equal(r.Log, want) || r.End != api.Over || got != 4 {
		t.Errorf("P2.2: %d: %+v", got, r)
	}
	for first := range 2 {
		x, done := cell.New(0), [2]bool{}
		tries := func(th *gate.Thread) { done[th.Number()] = x.Cas(th, 0, int64(th.Number())+10) }
		r := gate.Run([]int{first}, 9, tries, tries)
		if !done[first] || done[1-first] || x.Load(nil) != int64(first)+10 || r.Turns != 2 {
			t.Errorf("P2.2: %v: %+v", done, r)
		}
	}
}

// scripts: threads that make calls of these cells.
func scripts(calls [][]call, cells []*cell.Cell) *aid.Scripts[call, answer] {
	return &aid.Scripts[call, answer]{
		Calls: calls,
		Do:    func(t *gate.Thread, c call) answer { return c.do(t, cells[c.cell]) },
		Steps: func(s *aid.Steps, c call) answer { return c.steps(s) },
	}
}

// TestRuns: random threads under random picks: W1 (the record says all), W3 (of a dead run), W7 (again).
func TestRuns(t *testing.T) {
	ends := map[int8]int{}
	for seed := range int64(3000) {
		r := rand.New(rand.NewSource(seed))
		few := []int{2, 3, len(edges)}[r.Intn(3)]
		cells, held := someCells(r, few)
		calls := make([][]call, 1+r.Intn(4))
		for i := range calls {
			for range r.Intn(7) {
				calls[i] = append(calls[i], someCall(r, len(cells), few))
			}
		}
		threads := scripts(calls, cells)
		report := gate.Run(aid.Picks(r.Intn, 19), []int{0, 3, 100, 100}[r.Intn(4)], threads.Bodies()...)
		ends[report.End]++
		saysAll(t, report, threads, cells, held)
		for i, v := range held {
			cells[i].Store(nil, v)
		}
		again, e, _ := gate.Again(report.Went, scripts(calls, cells).Bodies()...)
		if e != api.OK || !aid.Same(again, report) {
			t.Errorf("W7: %d: %+v, not %+v", e, again, report)
		}
		if t.Failed() {
			t.Fatalf("seed %d: %+v: %s", seed, calls, aid.Texts(report.Log))
		}
	}
	if ends[api.Over] < 300 || ends[api.Dead] < 300 || ends[api.Cut] < 300 {
		t.Errorf("the threads are no good: %v", ends)
	}
}

// saysAll holds a report and the answers against the calls, each of which is one access, and the record against what the cells hold.
func saysAll(t *testing.T, r api.Report, threads *aid.Scripts[call, answer], cells []*cell.Cell, held []int64) {
	t.Helper()
	was := map[int]int64{}
	for i, v := range held {
		was[i] = v
	}
	ends, faults := threads.Ends(r, was)
	for _, f := range faults {
		t.Errorf("W1: %s", f)
	}
	for i, x := range cells {
		if n := x.Load(nil); n != ends[i] {
			t.Errorf("W1: the cell %d holds %d in the end, not %d", i, n, ends[i])
		}
	}
	if r.End == api.Over && len(r.Left) > 0 || r.End == api.Dead && len(r.Left) == 0 {
		t.Errorf("W3: %d, left are %+v", r.End, r.Left)
	}
}

// TestStopped: each call of a stopped thread panics with the gate's own value, and does nothing.
func TestStopped(t *testing.T) {
	x := cell.New(3)
	own := 0
	r := gate.Run(nil, 0, func(th *gate.Thread) {
		for range 2 { // the first time it is stopped where it stands, then at each call
			for _, op := range ops {
				for _, a := range []int64{3, 8} {
					func() {
						defer func() {
							if gate.Is(recover()) {
								own++
							}
						}()
						call{op: op, a: a, b: 9}.do(th, x)
					}()
				}
			}
		}
	})
	if own != 2*2*len(ops) || x.Load(nil) != 3 || len(r.Log) != 0 || r.End != api.Cut || len(r.Left) != 1 || len(r.Fell) != 0 {
		t.Errorf("R1: %d panics, the cell holds %d: %+v", own, x.Load(nil), r)
	}
}

// TestFreeWithinARun: a call that is handed a thread that has ended, or none, is no access of the thread in whose goroutine it is.
func TestFreeWithinARun(t *testing.T) {
	own := cell.New(0)
	r := gate.Run(nil, 99, func(th *gate.Thread) {
		for what, other := range aid.NotLiving() {
			x := cell.New(6)
			for _, c := range []call{{op: api.OpLoad}, {op: api.OpStore, a: 2}, {op: api.OpCas, a: 2, b: 5}, {op: api.OpAdd, a: 1}, {op: api.OpSwap, a: 9}, {op: api.OpPark, a: 8}} {
				_, want := c.plain(x.Load(nil))
				if got := c.do(other, x); got != want {
					t.Errorf("P2.3: %s: %+v answers %v, not %v", what, c, got, want)
				}
			}
		}
		own.Add(th, 1)
	})
	if r.Turns != 1 || len(r.Log) != 1 || r.End != api.Over {
		t.Errorf("P2.3: %+v", r)
	}
}

// TestOneCellManyRuns: a cell may be free, then under one gate, then under another: each has a number of its own for it.
func TestOneCellManyRuns(t *testing.T) {
	x, y := cell.New(0), cell.New(0)
	first := gate.Run(nil, 9, func(th *gate.Thread) { y.Load(th); x.Add(th, 2) })
	x.Add(nil, 3)
	second := gate.Run(nil, 9, func(th *gate.Thread) { x.Add(th, 4) })
	if first.Log[1] != (api.Access{Op: api.OpAdd, Cell: 1, Arg: 2, Now: 2}) || second.Log[0] != (api.Access{Op: api.OpAdd, Arg: 4, Was: 5, Now: 9}) {
		t.Errorf("P2.2: %+v, %+v", first.Log, second.Log)
	}
}
