package steal_test

import (
	"math"
	"slices"
	"testing"

	"treadle/aid"
	"treadle/gate"
	"treadle/steal"
)

// TestOrder: the chapter's table, and rings of some.
func TestOrder(t *testing.T) {
	for _, row := range []struct {
		workers, me int
		want        []int
	}{
		{4, 1, []int{2, 3, 0}}, {1, 0, nil}, {2, 2, nil}, {0, 0, nil},
		{2, 0, []int{1}}, {2, 1, []int{0}}, {3, 0, []int{1, 2}}, {3, 1, []int{2, 0}}, {3, 2, []int{0, 1}}, {5, 3, []int{4, 0, 1, 2}},
		{4, -1, nil}, {4, 4, nil}, {4, 5, nil}, {1, 1, nil}, {1, -1, nil}, {-1, 0, nil}, {-4, -1, nil}, {0, -1, nil},
	} {
		if l := steal.Order(row.workers, row.me); !slices.Equal(l, row.want) {
			t.Errorf("P23.1: Order(%d, %d): %v, not %v", row.workers, row.me, l, row.want)
		}
	}
}

// TestRings: of each number of workers, from each of them; and where there is none of so many, or no such worker.
func TestRings(t *testing.T) {
	ends := []int{math.MinInt, math.MinInt + 1, math.MinInt32, -1 << 16, 1 << 16, 1<<16 + 3, math.MaxInt32, 1 << 32, 1<<32 + 1, 1 << 62, math.MaxInt - 1, math.MaxInt}
	for n := -70; n <= 200; n++ {
		ends = append(ends, n)
	}
	for _, workers := range ends {
		for _, me := range ends {
			if l, want := steal.Order(workers, me), others(workers, me); !slices.Equal(l, want) {
				t.Errorf("P23.1: Order(%d, %d): %v, not %v", workers, me, l, want)
			}
		}
	}
	met := 0
	for workers := range 65 {
		for me := range workers {
			l := steal.Order(workers, me)
			seen := append(l, me)
			if met++; len(l) != workers-1 || workers > 1 && (l[0] != (me+1)%workers || l[workers-2] != (me+workers-1)%workers) {
				t.Errorf("P23.1: Order(%d, %d): %v", workers, me, l)
			}
			if slices.Sort(seen); !slices.Equal(seen, upTo(workers)) {
				t.Errorf("P23.1: Order(%d, %d): not all others, each once: %v", workers, me, l)
			}
		}
	}
	if met != 64*65/2 {
		t.Errorf("%d rings", met)
	}
}

// TestRingsAreTheirOwn: what is done with an answer, its spare room too, is not seen in others.
func TestRingsAreTheirOwn(t *testing.T) {
	for workers := range 65 {
		first, second := steal.Order(workers, 0), steal.Order(workers, 0)
		for _, l := range [][]int{first[:cap(first)], steal.Order(workers, workers/2)} {
			for i := range l {
				l[i] = -7
			}
		}
		want := others(workers, 0)
		if !slices.Equal(second, want) || !slices.Equal(steal.Order(workers, 0), want) || slices.ContainsFunc(first, func(i int) bool { return i != -7 }) {
			t.Errorf("R5: of %d workers: %v, and the first answer is %v", workers, second, first)
		}
	}
}

// TestOrderMakesNoAccess: whoever calls it.
func TestOrderMakesNoAccess(t *testing.T) {
	for _, f := range aid.Idle(func(who string, _ *gate.Thread) {
		for _, n := range []int{0, 1, 2, 64, 65} {
			if l := steal.Order(n, 0); !slices.Equal(l, others(n, 0)) {
				t.Errorf("P23.1: by %s: Order(%d, 0): %v", who, n, l)
			}
		}
	}) {
		t.Errorf("P23.1: %s", f)
	}
}
