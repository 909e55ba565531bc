package steal_test

import (
	"math"
	"math/rand"
	"runtime"
	"slices"
	"sync/atomic"
	"testing"
	"time"

	"treadle/aid"
	"treadle/api"
	"treadle/deque"
	"treadle/steal"
)

// (What plain memory is handed on the race detector sees besides.)

const hands, meetings = 8, 20000

// inTime: where something goes wrong somebody might go round for ever.
func inTime() (stop func() bool) {
	return time.AfterFunc(2*time.Minute, func() { panic("R1: somebody goes round for ever") }).Stop
}

// shop: workers who push at their own deques, pop there, and steal from one another, till nothing is left anywhere.
type shop struct {
	l     []*deque.Deque
	each  int       // so many values each pushes: from 1 on, with his number times 2^32
	plain [][]int   // what he does ahead of each
	got   [][]int64 // by each worker
	done  atomic.Int64
	wrong atomic.Int64
}

func newShop(workers, each, n int, from int64) *shop {
	s := &shop{each: each, got: make([][]int64, workers)}
	for range workers {
		s.l = append(s.l, spot{n: n, from: from}.deque())
		s.plain = append(s.plain, make([]int, each+1))
	}
	return s
}

func (s *shop) runs(seed int64) {
	aid.Beside(len(s.l), func(me int) {
		r := rand.New(rand.NewSource(seed + int64(me)))
		for i := 1; i <= s.each && s.wrong.Load() == 0; {
			for range 1 + r.Intn(12) {
				if i <= s.each && s.pushes(me, i) {
					i++
				}
			}
			for range r.Intn(6) {
				s.pops(me)
			}
			for range r.Intn(4) {
				s.steals(r, me)
			}
		}
		for s.pops(me) {
		}
		s.done.Add(1)
		for {
			all := int(s.done.Load()) == len(s.l) // nobody pushes any more: what is empty stays so
			if is := s.steals(r, me); !is && all || s.wrong.Load() > 0 {
				return
			} else if !is {
				runtime.Gosched()
			}
		}
	})
}

func (s *shop) pushes(me, i int) bool {
	s.plain[me][i] = 1
	return s.l[me].Push(nil, int64(me)<<32+int64(i)) == api.OK
}

func (s *shop) pops(me int) bool {
	v, ok := s.l[me].Pop(nil)
	if ok {
		s.sees(me, int(v>>32), v)
	}
	return ok
}

// steals: whether something is got.
func (s *shop) steals(r *rand.Rand, me int) bool {
	most := r.Intn(6)
	if most == 0 {
		v, from, ok := steal.One(nil, s.l, me)
		if ok {
			s.sees(me, from, v)
		}
		s.fault(ok == (from < 0) || from == me)
		return ok
	}
	row, from := steal.Some(nil, s.l, me, most)
	for _, v := range row {
		s.sees(me, from, v)
	}
	s.fault(len(row) > most || !slices.IsSorted(row) || (len(row) == 0) != (from == -1) || from == me)
	return len(row) > 0
}

func (s *shop) fault(is bool) { s.wrong.Add(int64(aid.Digit(is))) }

// sees: a worker gets a value of another one's deque, or of his own.
func (s *shop) sees(me, of int, v int64) {
	i := int(v & math.MaxUint32)
	if of < 0 || of >= len(s.l) || int(v>>32) != of || i < 1 || i > s.each {
		s.fault(true)
		return
	}
	s.fault(s.plain[of][i] != 1)
	s.got[me] = append(s.got[me], v)
}

// holds: whether each value is got once, and each worker's of another's deque come as they were pushed.
func (s *shop) holds() bool {
	for me, l := range s.got {
		last := map[int64]int64{}
		for _, v := range l {
			if by := v >> 32; by != int64(me) {
				s.fault(v <= last[by])
				last[by] = v
			}
		}
	}
	seen := slices.Concat(s.got...)
	slices.Sort(seen)
	for i, v := range seen {
		s.fault(v != int64(i/s.each)<<32+int64(i%s.each+1))
	}
	return s.wrong.Load() == 0 && len(seen) == len(s.l)*s.each
}

// TestWorkers: each value that was pushed is got once, by whomever; and when nobody finds anything nothing is left.
func TestWorkers(t *testing.T) {
	defer inTime()()
	for round, row := range []struct {
		workers, each, n int
		from             int64
	}{
		{1, 5000, 2, 0}, {2, 60000, 2, math.MaxInt64 - 100}, {3, 30000, 4, 0}, {hands, 10000, 2, -5000}, {hands, 20000, 16, math.MaxInt64}, {hands, 20000, api.MaxRing, 0}, {33, 2000, 8, 7}, {api.MaxThreads, 1000, 4, math.MinInt64}, {api.MaxThreads, 1000, 64, 0},
	} {
		s := newShop(row.workers, row.each, row.n, row.from)
		s.runs(int64(1000 * round))
		if !s.holds() {
			t.Fatalf("what follows: of %+v: %d times wrong; %d are got", row, s.wrong.Load(), len(slices.Concat(s.got...)))
		}
		for i, d := range s.l {
			if d.Len(nil) != 0 {
				t.Errorf("what follows: of %+v: the deque %d has %d left", row, i, d.Len(nil))
			}
		}
	}
}

// TestNotInVain: where there is enough for all a One is never told nothing, and a Some never gets less than it asks for; they are of the first deque that has something.
func TestNotInVain(t *testing.T) {
	defer inTime()()
	const each, most = 128, 3
	for round := range 60 {
		d, _ := deque.New(api.MaxRing, int64(round)-30)
		for i := range int64(hands * each * (1 + most)) {
			d.Push(nil, i+1)
		}
		l := []*deque.Deque{nil, holds().deque(), d, holds(9, 9, 9).deque()}
		l = l[:3+round%2] // at the end, or ahead of another one
		rows := make([][]int64, hands)
		var wrong atomic.Int64
		aid.Beside(hands, func(h int) {
			for range each {
				v, from, ok := steal.One(nil, l, 0)
				row, by := steal.Some(nil, l, 0, most)
				if !ok || from != 2 || by != 2 || len(row) != most {
					wrong.Add(1)
					return
				}
				rows[h] = append(append(rows[h], v), row...)
			}
		})
		for _, row := range rows {
			if !slices.IsSorted(row) {
				wrong.Add(1)
			}
		}
		if got := slices.Concat(rows...); wrong.Load() != 0 || !aid.EachOnce(got, 0, hands*each*(1+most)) || d.Len(nil) != 0 {
			t.Fatalf("P23.2, P23.3: %d times wrong; %d are got, %d left", wrong.Load(), len(got), d.Len(nil))
		}
	}
}

// TestEachIsHad: hands that meet at deques get what is there, each one, as long as there is something.
func TestEachIsHad(t *testing.T) {
	meet(t, [][]int64{{1, 2, 3}, {4, 5, 6}, {7}, {8, 9}}, func(int) call { return ones(0, null, 0, null, 1, 2, 3) })
}

// TestSomeAreLeftOut: where there is not enough for all.
func TestSomeAreLeftOut(t *testing.T) {
	meet(t, [][]int64{{1, 2}, {3, 4}}, func(h int) call { return []call{ones(1, 1, null, 0), ones(2, 0, 1, null)}[h%2] })
}

// TestSomeMeet: each gets at most two.
func TestSomeMeet(t *testing.T) {
	meet(t, [][]int64{{1, 2, 3, 4}, {5, 6, 7}}, func(h int) call { return []call{somes(2, 2, 0, 1, null), ones(2, 1, 0, null)}[h%2] })
}

// TestTheOwnerMeets: one of them pops.
func TestTheOwnerMeets(t *testing.T) {
	meet(t, [][]int64{{1, 2}}, func(h int) call { return []call{pops(0), ones(1, 0, null)}[min(h, 1)] })
}

// TestTheLastMeets: there is one for all.
func TestTheLastMeets(t *testing.T) {
	meet(t, [][]int64{nil, {1}}, func(h int) call { return []call{pops(1), ones(2, 0, 1, null), somes(2, 2, 0, 1, null)}[min(h, 2)] })
}

// meet: hands that meet again and again at deques that have these values: each value is had once; and where somebody gets less than he asks for the deque is empty, all are where he gets nothing.
func meet(t *testing.T, has [][]int64, does func(hand int) call) {
	t.Helper()
	defer inTime()()
	all, worlds := slices.Concat(has...), make([]deques, meetings)
	for i := range worlds {
		for _, l := range has {
			from := aid.Positions()[i%len(aid.Positions())]
			worlds[i] = append(worlds[i], spot{n: 4, from: from, has: l}.deque())
		}
	}
	var got [hands][meetings]answer
	aid.Together(hands, meetings, func(h, i int) { got[h][i] = worlds[i].do(nil, does(h)) })
	for i, l := range worlds {
		var had []int64
		for h := range got {
			c, a := does(h), got[h][i]
			had = append(had, aid.OfLine(a.row)...)
			if c.isOfSteal() && !l.fits(c, a, has) {
				t.Fatalf("what follows: of %v %+v is answered %v", has, c, a)
			}
		}
		for _, d := range l {
			had = append(had, emptied(d)...)
		}
		if slices.Sort(had); !slices.Equal(had, all) {
			t.Fatalf("what follows: of %v there are had %v", all, had)
		}
	}
}

// fits: whether a call may be answered so, where these values were in the deques, nobody pushes, and all calls have ended.
func (l deques) fits(c call, a answer, has [][]int64) bool {
	row, most := aid.OfLine(a.row), max(c.most, 1)
	if len(row) == 0 {
		return a == nothing && !slices.ContainsFunc(l, func(d *deque.Deque) bool { return d.Len(nil) > 0 })
	}
	of := c.l[a.from]
	empty := l[of].Len(nil) == 0
	return len(row) <= most && (len(row) == most || empty) && slices.IsSorted(row) && slices.Contains(has[of], row[0]) && slices.Contains(has[of], row[len(row)-1])
}

// TestOneOrder: small programs of several hands at one deque: there is an order of all that is got, popped, or found to be empty, in which a deque answers so, and is left so.
func TestOneOrder(t *testing.T) {
	defer inTime()()
	for seed := range int64(6000) {
		r := rand.New(rand.NewSource(seed))
		of := spot{n: 2 << r.Intn(2), from: aid.Some(r.Intn, aid.Positions())}
		l := newDeques(of)
		var calls [4][]call
		for i := range 8 {
			calls[0] = append(calls[0], call{op: aid.Some(r.Intn, []int{push, push, pop}), v: int64(i)})
		}
		for h := range calls[1:] {
			for range 3 {
				calls[1+h] = append(calls[1+h], aid.Some(r.Intn, []call{ones(1, 0, null), somes(2, 1, 0, null), somes(3, 0, null, 0, null)}))
			}
		}
		var done [4][]call
		var got [4][]answer
		aid.Beside(len(calls), func(h int) {
			for _, c := range calls[h] {
				d, a := parts(c, l.do(nil, c))
				done[h], got[h] = append(done[h], d...), append(got[h], a...)
			}
		})
		left := aid.Line(emptied(l[0]))
		if !aid.Explained(done[:], got[:], newPlain(of), does, func(s plain) bool { return s.rows[0] == left }) {
			t.Fatalf("what follows: seed %d: of %v no order of %+v answers %v and leaves %s", seed, of, done, got, left)
		}
	}
}

// parts: a call, and its answer; of one of steal the Steals of which each got a value, or nothing.
func parts(c call, a answer) (calls []call, got []answer) {
	if !c.isOfSteal() {
		return []call{c}, []answer{a}
	}
	row := aid.OfLine(a.row)
	for _, v := range row {
		calls, got = append(calls, steals(0)), append(got, stolen(v))
	}
	if len(row) < max(c.most, 1) {
		calls, got = append(calls, steals(0)), append(got, no)
	}
	return calls, got
}

// TestOrders: by many hands at one time each is answered its own.
func TestOrders(t *testing.T) {
	var wrong atomic.Int64
	aid.Together(hands, 3000, func(h, i int) {
		workers, me := 1+i%64, h%(1+i%64)
		l := steal.Order(workers, me)
		if !slices.Equal(l, others(workers, me)) {
			wrong.Add(1)
		}
		clear(l)
	})
	if wrong.Load() != 0 {
		t.Errorf("P23.1: %d times another one", wrong.Load())
	}
}
