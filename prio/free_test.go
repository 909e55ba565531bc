package prio_test

import (
	"math/rand"
	"slices"
	"sync/atomic"
	"testing"

	"treadle/aid"
	"treadle/api"
	"treadle/prio"
)

const hands, meetings = 8, 20000

// TestNothingIsLost: each value that was put is taken once, with its level, by whomever; of one putter's values on one level each taker's come in his order. Behind that there is nothing, and room for all.
func TestNothingIsLost(t *testing.T) {
	for _, m := range []size{{1, 2}, {2, 2}, {2, 64}, {3, 4}, {8, 2}, {8, 4096}} {
		for _, who := range [][2]int{{1, 1}, {1, hands - 1}, {hands - 1, 1}, {hands / 2, hands / 2}, {1, 2}, {2, 1}} {
			x := m.prio()
			var amiss atomic.Int64
			level := func(v int64) int { return int(v%5+v%7) % m.levels }
			p := aid.Passage{Putters: who[0], Takers: who[1], Each: 24000 / who[0], Lane: level,
				Put: func(v int64) bool { return x.Put(nil, level(v), v) == api.OK },
				Take: func() (int64, bool) {
					v, n, ok := x.Take(nil)
					if ok && n != level(v) || !ok && (v != 0 || n != 0) {
						amiss.Add(1)
					}
					return v, ok
				},
			}
			if n := p.Wrong() + int(amiss.Load()); n != 0 {
				t.Fatalf("what follows: %v, %v: %d times wrong", m, who, n)
			}
			if l := m.goesAround(); !slices.Equal(all(x, nil, l...), m.plain().answers(l...)) {
				t.Errorf("what follows: %v, %v: behind that it is not as at first", m, who)
			}
		}
	}
}

// TestNotInVain: with one who puts and one who takes: a Put is refused just if its level is full, a Take just if nothing is there.
func TestNotInVain(t *testing.T) {
	const each = 100000
	for _, m := range []size{{1, 2}, {2, 2}, {3, 8}, {8, 64}} {
		x := m.prio()
		did := make([][2]atomic.Int64, m.levels) // of each level those that were put, and taken
		var in, out, wrong, refused atomic.Int64
		aid.Beside(2, func(h int) {
			r := rand.New(rand.NewSource(int64(h)))
			for range each {
				if h == take {
					were := in.Load()
					_, n, ok := x.Take(nil)
					if ok {
						out.Add(1)
						did[n][take].Add(1)
						continue
					}
					refused.Add(1)
					wrong.Add(int64(aid.Digit(were > out.Load())))
					continue
				}
				n := r.Intn(m.levels)
				room := int64(m.room) - did[n][put].Load() + did[n][take].Load()
				if x.Put(nil, n, 7) == api.OK {
					in.Add(1)
					did[n][put].Add(1)
					continue
				}
				refused.Add(1)
				wrong.Add(int64(aid.Digit(room > 0)))
			}
		})
		if wrong.Load() != 0 {
			t.Errorf("what follows: of %v: %d of %d times in vain", m, wrong.Load(), refused.Load())
		}
	}
}

// newPrios: so many, of two levels and two places each, in which one alone has made these calls.
func newPrios(n int, first ...call) []*prio.Prio {
	l := make([]*prio.Prio, n)
	for i := range l {
		l[i] = size{2, 2}.filled(first...)
	}
	return l
}

// meet: what so many hands are answered that make each a call together, of one Prio after the other; and what one alone is answered who empties it then.
func meet(many int, l []*prio.Prio, calls func(hand int) call) (got, left [][]answer) {
	for range l {
		got = append(got, make([]answer, many))
	}
	aid.Together(many, len(l), func(h, i int) { got[i][h] = do(l[i], nil, calls(h)) })
	for _, p := range l {
		left = append(left, all(p, nil, size{2, 2}.empties()...))
	}
	return got, left
}

// TestOneHasThePlace: of those who put together where one place is free just one does, and his value is there.
func TestOneHasThePlace(t *testing.T) {
	l := newPrios(meetings, puts(0, -1), puts(1, -2), puts(1, -3))
	got, left := meet(hands, l, func(h int) call { return puts(0, int64(h)) })
	for i := range l {
		who := slices.Index(got[i], okay)
		n := 0
		for _, a := range got[i] {
			n += aid.Digit(a == okay)
		}
		if n != 1 || !slices.Equal(left[i], []answer{took(1, -2), took(1, -3), took(0, -1), took(0, int64(who)), none}) {
			t.Fatalf("what follows: %v: then %v", got[i], left[i])
		}
	}
}

// TestEachHasAPlace: of those who put together, half of them on each level, two do on each.
func TestEachHasAPlace(t *testing.T) {
	l := newPrios(meetings)
	got, left := meet(hands, l, func(h int) call { return puts(h%2, int64(h)) })
	for i := range l {
		there := map[int64]int{} // of each value that is put its level
		for h, a := range got[i] {
			if a == okay {
				there[int64(h)] = h % 2
			}
		}
		for k, a := range left[i] {
			n, is := there[a.v]
			if a.ok != (k < 4) || a.ok && (!is || n != a.level || n != 1-k/2) {
				t.Fatalf("what follows: %v: then %v", got[i], left[i])
			}
			delete(there, a.v)
		}
		if len(there) != 0 {
			t.Fatalf("what follows: %v: then %v", got[i], left[i])
		}
	}
}

// TestEachHisLevel: of those who put together, each on a level of his own, each has a ticket of his own: the first ones that there are. Of those who take together then each has a value: who is forestalled goes round again.
func TestEachHisLevel(t *testing.T) {
	l := make([]*prio.Prio, meetings)
	for i := range l {
		l[i] = size{hands, 2}.prio()
	}
	aid.Together(hands, len(l), func(h, i int) { do(l[i], nil, puts(h, int64(h))) })
	for _, p := range l {
		r, got := alone(p, takes)
		var tickets []int64
		for i := 2; i < 3*hands; i += 3 { // of each level it loads out, a turn, and the ticket
			tickets = append(tickets, r.Log[i].Was)
		}
		slices.Sort(tickets)
		if !slices.Equal(tickets, []int64{1, 2, 3, 4, 5, 6, 7, 8}) || do(p, nil, puts(got[0].level, got[0].v)) != okay {
			t.Fatalf("P18.2: the tickets %v", tickets)
		}
	}
	var got [hands][meetings]answer
	aid.Together(hands, len(l), func(h, i int) { got[h][i] = do(l[i], nil, takes) })
	for i := range l {
		had := map[answer]int{}
		for h := range got {
			had[got[h][i]]++
		}
		for level := range hands {
			if had[took(level, int64(level))] != 1 {
				t.Fatalf("what follows: %v are taken", had)
			}
		}
	}
}

// TestEachIsHad: of those who take together each has another value; and what is first on a level somebody has, if there are enough of them. (Who comes late at a place does not look at the next one.)
func TestEachIsHad(t *testing.T) {
	for _, row := range []struct {
		first []call
		many  int
	}{
		{[]call{puts(0, 5)}, hands}, {[]call{puts(1, 5)}, hands}, {[]call{puts(0, 5), puts(1, 6)}, 2}, {[]call{puts(0, 5), puts(1, 6)}, hands},
		{[]call{puts(1, 5), puts(1, 6)}, hands}, {[]call{puts(0, 5), puts(1, 6), puts(0, 7), puts(1, 8)}, hands}, {ages(63), 2},
	} {
		s := size{2, 2}.plain()
		s.answers(row.first...)
		var want, firsts []answer
		for level, there := range s.levels {
			for k, i := range there {
				want = append(want, took(level, i.v))
				if k == 0 {
					firsts = append(firsts, took(level, i.v))
				}
			}
		}
		slices.SortFunc(want, byValue)
		l := newPrios(meetings, row.first...)
		got, left := meet(row.many, l, func(int) call { return takes })
		for i := range l {
			there := slices.DeleteFunc(slices.Concat(got[i], left[i]), func(a answer) bool { return a == none })
			slices.SortFunc(there, byValue)
			had := true
			for _, a := range firsts {
				had = had && slices.Contains(got[i], a)
			}
			if !had || !slices.Equal(there, want) {
				t.Fatalf("what follows: of %v: %v, then %v", want, got[i], left[i])
			}
		}
	}
}

func byValue(a, b answer) int { return int(a.v - b.v) }

// queues: what is there on each level, a letter a value; each is a queue without a bound.
type queues [3]string

// passes: what the queues are behind a call that was not refused, and what that answers. (Of a take it is known from which level.)
func passes(s queues, c call) (queues, answer) {
	l := &s[c.level]
	if c.op == put {
		*l += string(rune('a' + c.v))
		return s, okay
	}
	if *l == "" {
		return s, none
	}
	v := int64((*l)[0] - 'a')
	*l = (*l)[1:]
	return s, took(c.level, v)
}

// TestOneOrder: small programs of several hands: there is an order of all calls that were not refused in which a queue a level answers so, and is left so.
func TestOneOrder(t *testing.T) {
	for seed := range int64(4000) {
		r := rand.New(rand.NewSource(seed))
		m := size{1 + r.Intn(3), 2 << r.Intn(2)}
		x := m.prio()
		var calls, done [4][]call
		var got [4][]answer
		for h := range calls {
			for i := range 4 {
				calls[h] = append(calls[h], aid.Some(r.Intn, []call{takes, puts(r.Intn(m.levels), int64(4*h+i))}))
			}
		}
		aid.Beside(len(calls), func(h int) {
			for _, c := range calls[h] {
				if a := do(x, nil, c); a != full && (c.op == put || a != none) {
					if c.op == take {
						c.level = a.level
					}
					done[h], got[h] = append(done[h], c), append(got[h], a)
				}
			}
		})
		left := all(x, nil, m.empties()...)
		fits := func(s queues) bool {
			for _, a := range left {
				want := none
				if a.ok {
					s, want = passes(s, call{op: take, level: a.level})
				}
				if a != want {
					return false
				}
			}
			return s == queues{}
		}
		if !aid.Explained(done[:], got[:], queues{}, passes, fits) {
			t.Fatalf("what follows: seed %d: of %v no order of %+v answers %v and leaves %v", seed, m, done, got, left)
		}
	}
}
