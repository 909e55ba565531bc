package cell_test

import (
	"math"
	"runtime"
	"slices"
	"sync"
	"testing"
	"testing/synctest"

	"treadle/aid"
	"treadle/cell"
	"treadle/gate"
)

// In a bubble of synctest Wait answers when all others sleep (who goes round and looks does not), and a bubble whose goroutines all sleep for good fails.

// sleeper: one that parks, and what it was answered.
type sleeper struct {
	answered bool
	got      int64
}

// parks begins sleepers of the cell, one for each of the values.
func parks(x *cell.Cell, th *gate.Thread, on ...int64) []*sleeper {
	var l []*sleeper
	for _, v := range on {
		s := &sleeper{}
		l = append(l, s)
		go func() {
			s.got = x.Park(th, v)
			s.answered = true
		}()
	}
	synctest.Wait()
	return l
}

// woken: the places of those that were answered.
func woken(l []*sleeper) []int {
	synctest.Wait()
	var at []int
	for i, s := range l {
		if s.answered {
			at = append(at, i)
		}
	}
	return at
}

func TestEachChangeWakes(t *testing.T) {
	for _, row := range []struct {
		what     string
		from, to int64
		change   func(x *cell.Cell)
	}{
		{"Store", 5, 6, func(x *cell.Cell) { x.Store(nil, 6) }},
		{"Store of one less", 5, 4, func(x *cell.Cell) { x.Store(nil, 4) }},
		{"Store of 0", 5, 0, func(x *cell.Cell) { x.Store(nil, 0) }},
		{"Cas", 5, 6, func(x *cell.Cell) { x.Cas(nil, 5, 6) }},
		{"Cas to 0", 5, 0, func(x *cell.Cell) { x.Cas(nil, 5, 0) }},
		{"Add", 5, 2, func(x *cell.Cell) { x.Add(nil, -3) }},
		{"Add, round", math.MaxInt64, math.MinInt64, func(x *cell.Cell) { x.Add(nil, 1) }},
		{"Add of the least", 0, math.MinInt64, func(x *cell.Cell) { x.Add(nil, math.MinInt64) }},
		{"Swap", 5, 6, func(x *cell.Cell) { x.Swap(nil, 6) }},
		{"Swap of far", 1, 1 + 1<<32, func(x *cell.Cell) { x.Swap(nil, 1+1<<32) }},
	} {
		for what, th := range aid.NotLiving() {
			synctest.Test(t, func(t *testing.T) {
				x := cell.New(row.from)
				l := parks(x, th, row.from, row.from, row.from)
				if at := woken(l); len(at) > 0 {
					t.Errorf("P2.3: %s: %v do not sleep", row.what, at)
				}
				row.change(x)
				if at := woken(l); len(at) != 3 {
					t.Errorf("P2.3: %s, by %s: just %v are woken", row.what, what, at)
				}
				for _, s := range l {
					if s.got != row.to {
						t.Errorf("P2.3: %s: Park answers %d", row.what, s.got)
					}
				}
			})
		}
	}
}

// TestWhoSleepsOnAnotherValue: a Park is done at once but on what the cell holds; each change is answered to those alone who don't sleep on what is then.
func TestWhoSleepsOnAnotherValue(t *testing.T) {
	synctest.Test(t, func(t *testing.T) {
		x := cell.New(1)
		l := parks(x, nil, 1, 2, 0, 1, -1, math.MinInt64)
		if at := woken(l); !slices.Equal(at, []int{1, 2, 4, 5}) {
			t.Errorf("P2.3: of 1: %v are done", at)
		}
		x.Store(nil, 2)
		if at := woken(l); len(at) != 6 {
			t.Errorf("P2.3: then of 2: %v are done", at)
		}
		more := parks(x, nil, 2, 1, 2)
		if at := woken(more); !slices.Equal(at, []int{1}) {
			t.Errorf("P2.3: of 2: %v are done", at)
		}
		x.Add(nil, 1)
		if at := woken(more); len(at) != 3 || more[0].got != 3 || more[1].got != 2 || more[2].got != 3 {
			t.Errorf("P2.3: then of 3: %v are done", at)
		}
	})
}

// TestNoChange: whoever leaves the cell as it was wakes nobody, and a later change still does.
func TestNoChange(t *testing.T) {
	synctest.Test(t, func(t *testing.T) {
		x := cell.New(5)
		l := parks(x, nil, 5, 5)
		for what, f := range map[string]func(){
			"Store":         func() { x.Store(nil, 5) },
			"Swap":          func() { x.Swap(nil, 5) },
			"Add":           func() { x.Add(nil, 0) },
			"Cas":           func() { x.Cas(nil, 5, 5) },
			"Cas, not done": func() { x.Cas(nil, 6, 7) },
			"Load":          func() { x.Load(nil) },
			"Park":          func() { x.Park(nil, 4) },
			"another cell":  func() { cell.New(5).Store(nil, 6) },
		} {
			f()
			if at := woken(l); len(at) > 0 {
				t.Errorf("P2.3: %s: %v are answered %d", what, at, l[at[0]].got)
			}
		}
		x.Store(nil, 6)
		if at := woken(l); len(at) != 2 || l[0].got != 6 || l[1].got != 6 {
			t.Errorf("P2.3: the change behind: %v", at)
		}
	})
}

// TestThereAndBack: who misses what comes and goes sleeps on, and is woken by what stays; who does not miss it answers it.
func TestThereAndBack(t *testing.T) {
	for range 200 {
		synctest.Test(t, func(t *testing.T) {
			x := cell.New(0)
			l := parks(x, nil, 0, 0, 0)
			x.Store(nil, 1)
			x.Store(nil, 0)
			for _, i := range woken(l) {
				if l[i].got != 1 {
					t.Errorf("P2.3: Park(0) answers %d", l[i].got)
				}
			}
			x.Store(nil, 2)
			if at := woken(l); len(at) != 3 {
				t.Errorf("P2.3: what stays is slept through: %v", at)
			}
			for _, s := range l {
				if s.got != 1 && s.got != 2 {
					t.Errorf("P2.3: Park(0) answers %d", s.got)
				}
			}
		})
	}
}

// TestNoWakeIsLost: a change just as one is about to sleep. (The bubble fails if one sleeps for good.)
func TestNoWakeIsLost(t *testing.T) {
	changes := []func(x *cell.Cell){
		func(x *cell.Cell) { x.Store(nil, 1) },
		func(x *cell.Cell) { x.Cas(nil, 0, 1) },
		func(x *cell.Cell) { x.Add(nil, 1) },
		func(x *cell.Cell) { x.Swap(nil, 1) },
	}
	synctest.Test(t, func(t *testing.T) {
		for round := range 20000 {
			x := cell.New(0)
			var all sync.WaitGroup
			for range 1 + round%3 {
				all.Go(func() {
					if n := x.Park(nil, 0); n != 1 {
						t.Errorf("P2.3: Park(0) answers %d", n)
					}
				})
			}
			if round%2 == 0 {
				runtime.Gosched()
			}
			changes[round%len(changes)](x)
			all.Wait()
		}
	})
}

// TestHandedRound: several hands, each of which goes on when the cell comes to its own; W3: none is lost.
func TestHandedRound(t *testing.T) {
	for _, hands := range []int64{2, 3, 8} {
		synctest.Test(t, func(t *testing.T) {
			const rounds = 1000
			x := cell.New(0)
			order := []int64{} // plain: who has the turn alone touches it
			aid.Beside(int(hands), func(h int) {
				for range rounds {
					for n := x.Load(nil); n%hands != int64(h); {
						n = x.Park(nil, n)
					}
					order = append(order, int64(h))
					x.Add(nil, 1)
				}
			})
			if n := x.Load(nil); n != hands*rounds || int64(len(order)) != n {
				t.Errorf("P2.3: %d hands: %d, %d turns", hands, n, len(order))
			}
			for i, h := range order {
				if h != int64(i)%hands {
					t.Fatalf("P2.3: %d hands: the turn %d is of %d", hands, i, h)
				}
			}
		})
	}
}

// TestSleepersTakeNoTimeOfOthers: others go on beside those who sleep, on this cell and on others.
func TestSleepersTakeNoTimeOfOthers(t *testing.T) {
	synctest.Test(t, func(t *testing.T) {
		x, y := cell.New(0), cell.New(0)
		l := parks(x, nil, make([]int64, 50)...)
		aid.Beside(4, func(h int) {
			for range 500 {
				y.Add(nil, 1)
				x.Load(nil)
				x.Cas(nil, 1, 2)
				x.Park(nil, 3)
			}
		})
		if at := woken(l); len(at) > 0 || y.Load(nil) != 2000 {
			t.Errorf("P2.3: %v are woken, %d", at, y.Load(nil))
		}
		x.Store(nil, 4)
		if at := woken(l); len(at) != 50 {
			t.Errorf("P2.3: just %v are woken", at)
		}
	})
}

// TestAnEndedThreadParksFree: within a run as well, where its goroutine is another one.
func TestAnEndedThreadParksFree(t *testing.T) {
	synctest.Test(t, func(t *testing.T) {
		var ended *gate.Thread
		gate.Run(nil, 9, func(th *gate.Thread) { ended = th })
		x := cell.New(0)
		l := parks(x, ended, 0)
		x.Store(ended, 3)
		if at := woken(l); len(at) != 1 || l[0].got != 3 {
			t.Errorf("P2.3: %v", at)
		}
	})
}
