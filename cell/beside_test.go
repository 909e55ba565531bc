package cell_test

import (
	"math"
	"math/rand"
	"slices"
	"testing"
	"testing/synctest"

	"treadle/aid"
	"treadle/api"
	"treadle/cell"
	"treadle/gate"
)

func TestAddsAddUp(t *testing.T) {
	for _, row := range []struct{ from, d int64 }{{0, 1}, {5, -3}, {math.MaxInt64 - 100, 7}, {math.MinInt64 + 9, -1}} {
		const hands, each = 8, 10000
		x := cell.New(row.from)
		got := make([][]int64, hands)
		aid.Beside(hands, func(h int) {
			for range each {
				got[h] = append(got[h], x.Add(nil, row.d))
			}
		})
		seen := slices.Concat(got...)
		for i := range seen {
			seen[i] = (seen[i] - row.from) / row.d // round: so many Adds were done
		}
		slices.Sort(seen)
		for i, n := range seen {
			if n != int64(i)+1 {
				t.Fatalf("P2.3: Add(%d) of %d: the Add number %d answers as the number %d", row.d, row.from, i+1, n)
			}
		}
		if n := x.Load(nil); n != row.from+row.d*hands*each {
			t.Errorf("P2.3: Add(%d) of %d: %d", row.d, row.from, n)
		}
	}
}

// zeros: so many cells that hold 0.
func zeros(n int) []*cell.Cell {
	l := make([]*cell.Cell, n)
	for i := range l {
		l[i] = cell.New(0)
	}
	return l
}

// TestOneCasOfSeveral: from a value that nobody lays again. Many cells, so that the hands meet at some.
func TestOneCasOfSeveral(t *testing.T) {
	const hands = 8
	cells := zeros(100000)
	done := make([][hands]bool, len(cells))
	aid.Beside(hands, func(h int) {
		for i, x := range cells {
			done[i][h] = x.Cas(nil, 0, int64(h)+1)
		}
	})
	for i, x := range cells {
		winner := slices.Index(done[i][:], true)
		if winner < 0 || slices.Contains(done[i][winner+1:], true) || x.Load(nil) != int64(winner)+1 {
			t.Fatalf("P2.3: %v, the cell holds %d", done[i], x.Load(nil))
		}
	}
}

// TestCasAddsUp: some add by Add, some by Cas from what they loaded: none of it is lost.
func TestCasAddsUp(t *testing.T) {
	const hands, each = 8, 100000
	x := cell.New(0)
	aid.Beside(hands, func(h int) {
		for range each {
			if h == 0 {
				x.Add(nil, 1)
				continue
			}
			for n := x.Load(nil); !x.Cas(nil, n, n+1); n = x.Load(nil) {
			}
		}
	})
	if n := x.Load(nil); n != hands*each {
		t.Errorf("P2.3: %d of %d", n, hands*each)
	}
}

func TestSwapsPermute(t *testing.T) {
	const hands, each = 8, 20000
	x := cell.New(0)
	got := make([][]int64, hands)
	aid.Beside(hands, func(h int) {
		for i := range each {
			got[h] = append(got[h], x.Swap(nil, int64(h*each+i+1)))
		}
	})
	seen := append(slices.Concat(got...), x.Load(nil))
	slices.Sort(seen)
	for i, n := range seen {
		if n != int64(i) {
			t.Fatalf("P2.3: %d where %d should be", n, i)
		}
	}
}

// TestOneOrder: small programs of several goroutines: there is an order of all their calls that explains what each was answered.
func TestOneOrder(t *testing.T) {
	for seed := range int64(4000) {
		r := rand.New(rand.NewSource(seed))
		cells := zeros(2)
		calls := [][]call{wakeCalls(r), wakeCalls(r), wakeCalls(r)}
		threads := scripts(calls, cells)
		bodies := threads.Bodies()
		aid.Beside(len(bodies), func(h int) { bodies[h](nil) })
		left := [2]int64{cells[0].Load(nil), cells[1].Load(nil)}
		if !aid.Explained(calls, threads.Got, [2]int64{}, does, func(held [2]int64) bool { return held == left }) {
			t.Fatalf("P2.3: seed %d: of %+v no order answers %+v and leaves %v", seed, calls, threads.Got, left)
		}
	}
}

// wakeCalls: three calls none of which sleeps.
func wakeCalls(r *rand.Rand) []call {
	var l []call
	for range 3 {
		c := someCall(r, 2, 3)
		if c.op == api.OpPark {
			c.a = 100 // nobody lays it: it is done at once
		}
		l = append(l, c)
	}
	return l
}

// does: what two cells hold behind a call, and what it answers.
func does(held [2]int64, c call) ([2]int64, answer) {
	now, a := c.plain(held[c.cell])
	held[c.cell] = now
	return held, a
}

// TestStoresAreSeen: of two who each store in one cell and then load the other one, one at least sees the other's.
func TestStoresAreSeen(t *testing.T) {
	lay := map[string]func(x *cell.Cell){
		"Store": func(x *cell.Cell) { x.Store(nil, 1) },
		"Swap":  func(x *cell.Cell) { x.Swap(nil, 1) },
		"Add":   func(x *cell.Cell) { x.Add(nil, 1) },
		"Cas":   func(x *cell.Cell) { x.Cas(nil, 0, 1) },
	}
	for what, f := range lay {
		cells := [2][]*cell.Cell{zeros(20000), zeros(20000)}
		var saw [2][20000]int64
		aid.Beside(2, func(h int) {
			for i := range cells[h] {
				f(cells[h][i])
				saw[h][i] = cells[1-h][i].Load(nil)
			}
		})
		for i := range saw[0] {
			if saw[0][i] == 0 && saw[1][i] == 0 {
				t.Fatalf("P2.3: %s: neither sees the other's", what)
			}
		}
	}
}

// TestPlainMemoryIsSeen: what lies in plain memory is handed on with a cell. (The race detector sees it, if it is not.)
func TestPlainMemoryIsSeen(t *testing.T) {
	synctest.Test(t, func(t *testing.T) {
		const rounds = 3000
		x := cell.New(0)
		plain := 0
		fell := gate.Free(func(th *gate.Thread) {
			for i := range int64(rounds) {
				plain++
				x.Store(th, 2*i+1)
				x.Park(th, 2*i+1)
			}
		}, func(th *gate.Thread) {
			for i := range int64(rounds) {
				for n := x.Load(th); n != 2*i+1; n = x.Park(th, n) {
				}
				plain++
				x.Add(th, 1)
			}
		})
		if plain != 2*rounds || len(fell) != 0 {
			t.Errorf("P2.3: %d", plain)
		}
	})
}
