package cell_test

import (
	"math"
	"math/rand"
	"testing"

	"treadle/aid"
	"treadle/api"
	"treadle/cell"
	"treadle/gate"
)

func TestNew(t *testing.T) {
	for _, v := range []int64{0, 1, -1, 5, math.MaxInt64, math.MinInt64, 1 << 32, -1 << 31} {
		x, y := cell.New(v), cell.New(v)
		if x == nil || x == y || x.Load(nil) != v || y.Load(nil) != v {
			t.Fatalf("P2.1: New(%d): %p holds %d, %p holds %d", v, x, x.Load(nil), y, y.Load(nil))
		}
		if x.Store(nil, 3); y.Load(nil) != v {
			t.Errorf("P2.1: a Store in one cell is seen in another: %d", y.Load(nil))
		}
	}
}

// TestExamples: the chapter's table, free, by each thread that does not live.
func TestExamples(t *testing.T) {
	for what, th := range aid.NotLiving() {
		x := cell.New(5)
		if n := x.Load(th); n != 5 {
			t.Errorf("%s: Load: %d", what, n)
		}
		x.Store(th, 7)
		if n := x.Load(th); n != 7 {
			t.Errorf("%s: Store(7), Load: %d", what, n)
		}
		if x.Cas(th, 5, 1) {
			t.Errorf("%s: Cas(5, 1) of 7", what)
		}
		if ok, n := x.Cas(th, 7, 1), x.Load(th); !ok || n != 1 {
			t.Errorf("%s: Cas(7, 1), Load: %v, %d", what, ok, n)
		}
		if n := x.Add(th, -3); n != -2 {
			t.Errorf("%s: Add(-3): %d", what, n)
		}
		if was, n := x.Swap(th, 9), x.Load(th); was != -2 || n != 9 {
			t.Errorf("%s: Swap(9), Load: %d, %d", what, was, n)
		}
		if n := x.Park(th, 8); n != 9 {
			t.Errorf("%s: Park(8): %d", what, n)
		}
		if n := cell.New(math.MaxInt64).Add(th, 1); n != -math.MaxInt64-1 {
			t.Errorf("%s: Add(1) of MaxInt64: %d", what, n)
		}
	}
}

// TestFreeAlone: each free call of one goroutine, held against the plain words.
func TestFreeAlone(t *testing.T) {
	threads := aid.FreeThreads()
	for seed := range int64(500) {
		r := rand.New(rand.NewSource(seed))
		few := []int{3, len(edges)}[r.Intn(2)]
		cells, held := someCells(r, few)
		for range 40 {
			c := someCall(r, len(cells), few)
			if c.op == api.OpPark && c.a == held[c.cell] {
				continue // it would sleep for good
			}
			now, want := c.plain(held[c.cell])
			if got := c.do(threads[r.Intn(len(threads))], cells[c.cell]); got != want {
				t.Fatalf("P2.3: seed %d: %+v of %d answers %v, not %v", seed, c, held[c.cell], got, want)
			}
			held[c.cell] = now
			for i, x := range cells {
				if n := x.Load(nil); n != held[i] {
					t.Fatalf("P2.3: seed %d: behind %+v the cell %d holds %d, not %d", seed, c, i, n, held[i])
				}
			}
		}
	}
}

// TestNone: a cell that is nil, or that New did not make, by threads of every kind: zeros, at once, no access.
func TestNone(t *testing.T) {
	var null *cell.Cell
	var own cell.Cell
	none := map[string]*cell.Cell{"nil": null, "made by no call": {}, "of a variable": &own, "made by new": new(cell.Cell)}
	asks := func(who string, th *gate.Thread) {
		for what, x := range none {
			for _, op := range ops {
				for _, c := range []call{{op: op}, {op: op, a: 3, b: 4}} {
					if got := c.do(th, x); got != (answer{}) {
						t.Errorf("P2.4: %s, by %s: %+v answers %v", what, who, c, got)
					}
				}
			}
		}
	}
	for _, f := range aid.Idle(asks) {
		t.Errorf("P2.4: %s", f)
	}
}
