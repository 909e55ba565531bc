package aid_test

import (
	"sync"
	"sync/atomic"
	"testing"
	"testing/synctest"

	"treadle/aid"
)

// queue: for many hands, of eight places.
type queue struct {
	sync.Mutex
	l []int64
}

// put puts all of these, or none.
func (q *queue) put(l ...int64) bool {
	q.Lock()
	defer q.Unlock()
	if len(q.l)+len(l) > 8 {
		return false
	}
	q.l = append(q.l, l...)
	return true
}

func (q *queue) take() (v int64, ok bool) {
	q.Lock()
	defer q.Unlock()
	if len(q.l) == 0 {
		return 0, false
	}
	v, q.l = q.l[0], q.l[1:]
	return v, true
}

// passes: how often something goes wrong in so many lanes, where each putter puts 4000 values so.
func passes(putters, takers int, lanes int64, put func(q *queue, v int64) bool) int {
	q := &queue{}
	p := aid.Passage{Putters: putters, Takers: takers, Each: 4000, Take: q.take,
		Put:  func(v int64) bool { return put(q, v) },
		Lane: func(v int64) int { return int(v % lanes) },
	}
	return p.Wrong()
}

func TestPassage(t *testing.T) {
	plainly := func(q *queue, v int64) bool { return q.put(v) }
	for _, who := range [][2]int{{1, 1}, {1, 5}, {5, 1}, {3, 3}} {
		if n := passes(who[0], who[1], 1, plainly); n != 0 {
			t.Errorf("%v: %d times wrong", who, n)
		}
	}
	swapped := func(q *queue, v int64) bool { return v%2 == 1 || q.put(v, v-1) }
	half := func(q *queue, v int64) bool { return q.put((v+1999)%4000 + 1) } // so far ahead that nobody looks as it is put
	for _, row := range []struct {
		what  string
		lanes int64
		put   func(q *queue, v int64) bool
		wrong int
	}{
		{"two change places", 1, swapped, 2000},
		{"two of unlike lanes change places", 2, swapped, 0},
		{"the half of all comes early", 5000, half, 2000},
		{"and the other one late", 1, half, 2001},
		{"one is taken twice, and one is not", 1, func(q *queue, v int64) bool { return q.put(min(v, 3999)) }, 2},
		{"one is nobody's", 1, func(q *queue, v int64) bool { return q.put(v + v/4000<<32) }, 2},
		{"one is none of his", 1, func(q *queue, v int64) bool { return q.put(v + v/4000) }, 2},
		{"one is lost", 1, func(q *queue, v int64) bool { return v == 7 || q.put(v) }, 3994},
		{"the last one is lost", 1, func(q *queue, v int64) bool { return v == 4000 || q.put(v) }, 1},
		{"all are lost", 1, func(*queue, int64) bool { return true }, 4000},
		{"from the ninth on all are refused", 1, func(q *queue, v int64) bool { return v < 9 && q.put(v) }, 3992},
		{"all are refused", 1, func(*queue, int64) bool { return false }, 4000},
		{"one is below them", 1, func(q *queue, v int64) bool { return q.put(v - 4000*(v/4000)) }, 4001},
	} {
		if n := passes(1, 1, row.lanes, row.put); n != row.wrong {
			t.Errorf("%s: %d times wrong", row.what, n)
		}
	}
}

// TestPassageEnds: whatever is taken, or is not; and each taker has at most what all put.
func TestPassageEnds(t *testing.T) {
	for what, take := range map[string]func(q *queue, last *int64) (int64, bool){
		"nothing": func(*queue, *int64) (int64, bool) { return 0, false }, "one of nobody's": func(*queue, *int64) (int64, bool) { return -1, true },
		"the last one again and again": func(q *queue, last *int64) (int64, bool) {
			v, ok := q.take()
			q.Lock()
			defer q.Unlock()
			if ok {
				*last = v
			}
			return *last, *last != 0
		},
	} {
		for _, who := range [][2]int{{1, 1}, {3, 2}, {1, 0}, {0, 1}} {
			q, last := &queue{}, int64(0)
			p := aid.Passage{Putters: who[0], Takers: who[1], Each: 100, Put: func(v int64) bool { return q.put(v) }, Take: func() (int64, bool) { return take(q, &last) }, Lane: func(int64) int { return 0 }}
			if n := p.Wrong(); (n == 0) != (who[0] == 0) && what != "the last one again and again" {
				t.Errorf("%s, %v: %d times wrong", what, who, n)
			}
		}
	}
}

// TestWhoIsRefusedSleeps when he has tried for some times, till another hand has done something. (In a bubble of synctest Wait answers when all others sleep: who goes round does not.)
func TestWhoIsRefusedSleeps(t *testing.T) {
	for _, isPut := range []bool{true, false} {
		synctest.Test(t, func(t *testing.T) {
			q, goes, wrong := &queue{}, make(chan int), -1
			var open atomic.Bool
			var tried atomic.Int64
			p := aid.Passage{Putters: 1, Takers: 1, Each: 2, Lane: func(int64) int { return 0 },
				Put:  func(v int64) bool { <-goes; return q.put(v) },
				Take: func() (int64, bool) { tried.Add(1); return q.take() },
			}
			if isPut { // the second value is refused
				p.Put = func(v int64) bool { tried.Add(1); return (v == 1 || open.Load()) && q.put(v) }
				p.Take = func() (int64, bool) { <-goes; return q.take() }
			}
			go func() { wrong = p.Wrong() }()
			synctest.Wait()
			first := tried.Load()
			open.Store(true) // no hand does so: he sleeps on
			synctest.Wait()
			again := tried.Load()
			goes <- 1
			synctest.Wait()
			last := tried.Load()
			goes <- 1
			if synctest.Wait(); first < 2 || first > 1000 || again != first || last == first || wrong != 0 {
				t.Errorf("he puts: %v: he has tried %d times, then %d, then %d; %d times wrong", isPut, first, again, last, wrong)
			}
		})
	}
}
