package gate_test

import (
	"math"
	"slices"
	"sync/atomic"
	"testing"

	"treadle/api"
	"treadle/gate"
)

func TestAgain(t *testing.T) {
	for _, row := range []struct {
		went []int
		told string
	}{
		{[]int{1, 0}, "end 1 2 | log 1 A 0 1 0: 0 1; 0 A 0 1 0: 1 2 | went 1 0 | ready 2 1 | left  | fell "},
		{[]int{0, 1, 99, -5}, "end 1 2 | log 0 A 0 1 0: 0 1; 1 A 0 1 0: 1 2 | went 0 1 | ready 2 1 | left  | fell "},
		{[]int{1}, "end 2 1 | log 1 A 0 1 0: 0 1 | went 1 | ready 2 | left 0 A 0 1 0: 1 1 | fell "},
		{nil, "end 2 0 | log  | went | ready | left 0 A -1 1 0: 0 0; 1 A -1 1 0: 0 0 | fell "},
	} {
		var x atomic.Int64
		r, e, at := gate.Again(row.went, add(&x, 1), add(&x, 1))
		if told(r) != row.told || e != api.OK || at != 0 {
			t.Errorf("P1.2: %v: %d at %d:\n got %s\nwant %s", row.went, e, at, told(r), row.told)
		}
	}
	var x atomic.Int64
	if r, e, at := gate.Again([]int{1, 8}, park(&x, 0), load(&x)); r.End != api.Dead || r.Turns != 1 || e != api.OK || at != 0 {
		t.Errorf("P1.2: dead: %d at %d: %s", e, at, told(r))
	}
}

// TestAgainIsApart: where a thread that is to go is none that is ready; all are stopped then.
func TestAgainIsApart(t *testing.T) {
	for _, row := range []struct {
		went []int
		at   int
	}{
		{[]int{0, 0}, 1}, // it has ended
		{[]int{2}, 0},    // it sleeps
		{[]int{1, 2}, 1}, // it sleeps still
		{[]int{1, 3}, 1}, // it ended without an access
		{[]int{1, 4}, 1}, // there is none
		{[]int{-1}, 0},
		{[]int{math.MinInt}, 0},
		{[]int{math.MaxInt, 0}, 0},
	} {
		var x, y atomic.Int64
		var ended, seen []int
		watched := func(f body) body {
			return func(t *gate.Thread) {
				defer func() {
					if gate.Is(recover()) {
						seen = append(seen, t.Number())
					}
					ended = append(ended, t.Number())
				}()
				f(t)
			}
		}
		r, e, at := gate.Again(row.went, watched(cas(&x, 0, 5)), watched(cas(&x, 0, 6)), watched(park(&y, 0)), nil)
		if !isZero(r) || e != api.ErrApart || at != row.at {
			t.Errorf("P1.2: %v: %d at %d: %s", row.went, e, at, told(r))
		}
		if len(ended) != 3 || len(seen) != 3-row.at || !slices.IsSorted(seen) {
			t.Errorf("P1.2: %v: %v have ended, of which %v were stopped", row.went, ended, seen)
		}
	}
}

func TestAgainAtItsLimits(t *testing.T) {
	var x atomic.Int64
	begun := 0
	spins := func(t *gate.Thread) {
		begun++
		for {
			t.Step(&x, api.OpAdd, 1, 0)
		}
	}
	if r, e, at := gate.Again(make([]int, api.MaxTurns), spins); r.End != api.Cut || r.Turns != api.MaxTurns || e != api.OK || at != 0 {
		t.Errorf("P1.2: %d at %d, %d turns", e, at, r.Turns)
	}
	if r, e, at := gate.Again(nil, many(api.MaxThreads, nil)...); r.End != api.Over || e != api.OK || at != 0 {
		t.Errorf("P1.2: of 64 bodies: %d at %d: %s", e, at, told(r))
	}
	begun = 0
	for _, row := range []struct {
		turns, bodies int
	}{{api.MaxTurns + 1, 1}, {1, api.MaxThreads + 1}, {api.MaxTurns + 1, api.MaxThreads + 1}} {
		r, e, at := gate.Again(make([]int, row.turns), many(row.bodies, spins)...)
		if !isZero(r) || e != api.ErrArg || at != 0 || begun != 0 {
			t.Errorf("P1.2: %d turns, %d bodies: %d at %d, %d begun: %s", row.turns, row.bodies, e, at, begun, told(r))
		}
	}
}
