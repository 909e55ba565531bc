package aid_test

import (
	"sync"
	"testing"

	"treadle/aid"
)

// queue: for many hands, of eight places.
type queue struct {
	sync.Mutex
	l []int64
}

// put puts all of these, or none.
func (q *queue) put(l ...int64) bool {
	q.Lock()
	defer q.Unlock()
	if len(q.l)+len(l) > 8 {
		return false
	}
	q.l = append(q.l, l...)
	return true
}

func (q *queue) take() (v int64, ok bool) {
	q.Lock()
	defer q.Unlock()
	if len(q.l) == 0 {
		return 0, false
	}
	v, q.l = q.l[0], q.l[1:]
	return v, true
}

// passes: how often something goes wrong in so many lanes, where each putter puts 4000 values so.
func passes(putters, takers int, lanes int64, put func(q *queue, v int64) bool) int {
	q := &queue{}
	p := aid.Passage{Putters: putters, Takers: takers, Each: 4000, Take: q.take,
		Put:  func(v int64) bool { return put(q, v) },
		Lane: func(v int64) int { return int(v % lanes) },
	}
	return p.Wrong()
}

func TestPassage(t *testing.T) {
	plainly := func(q *queue, v int64) bool { return q.put(v) }
	for _, who := range [][2]int{{1, 1}, {1, 5}, {5, 1}, {3, 3}} {
		if n := passes(who[0], who[1], 1, plainly); n != 0 {
			t.Errorf("%v: %d times wrong", who, n)
		}
	}
	swapped := func(q *queue, v int64) bool { return v%2 == 1 || q.put(v, v-1) }
	half := func(q *queue, v int64) bool { return q.put((v+1999)%4000 + 1) } // so far ahead that nobody looks as it is put
	for _, row := range []struct {
		what  string
		lanes int64
		put   func(q *queue, v int64) bool
		wrong int
	}{
		{"two change places", 1, swapped, 2000},
		{"two of unlike lanes change places", 2, swapped, 0},
		{"the half of all comes early", 5000, half, 2000},
		{"and the other one late", 1, half, 2001},
		{"one is taken twice, and one is not", 1, func(q *queue, v int64) bool { return q.put(max(v, 2)) }, 2},
		{"one is nobody's", 1, func(q *queue, v int64) bool { return q.put(v + v/4000<<32) }, 2},
		{"one is none of his", 1, func(q *queue, v int64) bool { return q.put(v + v/4000) }, 2},
		{"one is below them", 1, func(q *queue, v int64) bool { return q.put(v - 4000*(v/4000)) }, 4001},
	} {
		if n := passes(1, 1, row.lanes, row.put); n != row.wrong {
			t.Errorf("%s: %d times wrong", row.what, n)
		}
	}
}
