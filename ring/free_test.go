package ring_test

import (
	"math"
	"math/rand"
	"slices"
	"sync/atomic"
	"testing"

	"treadle/aid"
	"treadle/api"
	"treadle/ring"
)

const hands, meetings = 8, 50000

// TestNothingIsLost: each value that was put is taken once, by whomever; of one putter's values each taker's rise. Behind that the ring is as at first.
func TestNothingIsLost(t *testing.T) {
	for _, of := range []size{{2, 0}, {2, math.MaxInt64 - 100}, {4, -1000}, {64, math.MaxInt64}, {api.MaxRing, math.MaxInt64 - 9000}} {
		for _, who := range [][2]int{{1, 1}, {1, hands - 1}, {hands - 1, 1}, {hands / 2, hands / 2}, {1, 2}, {2, 1}} {
			x := of.ring()
			p := aid.Passage{Putters: who[0], Takers: who[1], Each: 24000 / who[0],
				Put:  func(v int64) bool { return x.Put(nil, v) == api.OK },
				Take: func() (int64, bool) { return x.Take(nil) },
				Lane: func(int64) int { return 0 },
			}
			if n := p.Wrong(); n != 0 {
				t.Fatalf("what follows: %v, %v: %d times wrong", of, who, n)
			}
			if l := goesAround(of.n); !asPlain(of.plain(), l, all(x, nil, l...)) {
				t.Errorf("what follows: %v, %v: behind that it is not as at first", of, who)
			}
		}
	}
}

// TestRefusedInVain: with one who takes a Put is refused just if its place is not free yet; with one who puts a Take is, just if its place is not full yet.
func TestRefusedInVain(t *testing.T) {
	const each = 40000
	for _, of := range []size{{2, 0}, {4, math.MaxInt64 - 1000}, {64, -5}} {
		for _, op := range []int{put, take} {
			x, wrong := of.ring(), atomic.Int64{}
			free := int64(of.n) // so many may be done ahead of the one's first
			if op == take {
				free = 0
			}
			var begun, ones atomic.Int64 // of the others those that began and were not refused; of the one those that were done
			aid.Beside(4, func(h int) {
				for range each {
					if h == 0 {
						if a := do(x, nil, call{op: put + take - op}); a.e == api.OK && a.ok == (op == put) {
							ones.Add(1)
						}
						continue
					}
					least := ones.Load()
					begun.Add(1)
					if a := do(x, nil, call{op: op}); a == okay && op == put || a.ok {
						continue
					}
					if least+free >= begun.Add(-1)+1 {
						wrong.Add(1)
					}
				}
			})
			if wrong.Load() != 0 {
				t.Errorf("what follows: of %v: %d times a %v is refused in vain", of, wrong.Load(), op)
			}
		}
	}
}

// TestLengths: with one who puts and one who takes: what others are told is between what may be there.
func TestLengths(t *testing.T) {
	const each = 300000
	for _, of := range []size{{2, 0}, {64, math.MaxInt64 - 1000}} {
		x := of.ring()
		var began, did [2]atomic.Int64 // of put and of take
		var wrong atomic.Int64
		aid.Beside(4, func(h int) {
			for range each {
				if h < 2 {
					began[h].Add(1)
					if a := do(x, nil, call{op: h}); a == okay && h == put || a.ok {
						did[h].Add(1)
					} else {
						began[h].Add(-1)
					}
					continue
				}
				in, out := did[put].Load(), did[take].Load()
				n := x.Len(nil)
				if n < in-began[take].Load() || n > began[put].Load()-out || n < 0 {
					wrong.Add(1)
				}
			}
		})
		if wrong.Load() != 0 || x.Len(nil) != did[put].Load()-did[take].Load() {
			t.Errorf("P6.4: of %v: %d times a length is wrong; at the end it is %d", of, wrong.Load(), x.Len(nil))
		}
	}
}

// TestOneHasThePlace: of those who put together where one place is free just one does, and his value is there.
func TestOneHasThePlace(t *testing.T) {
	rings := newRings(1)
	var has [hands][meetings]bool
	aid.Together(hands, meetings, func(h, i int) { has[h][i] = rings[i].Put(nil, int64(h)) == api.OK })
	for i, x := range rings {
		who, n := such(has[:], i)
		if got := all(x, nil, lengths, takes, takes, takes, lengths); n != 1 || !slices.Equal(got, []answer{long(2), took(-1), took(int64(who)), none, long(0)}) {
			t.Fatalf("what follows: %d have the place: %v", n, got)
		}
	}
}

// TestOneHasTheValue: of those who take together where one value is there just one does.
func TestOneHasTheValue(t *testing.T) {
	rings := newRings(1)
	var has [hands][meetings]bool
	aid.Together(hands, meetings, func(h, i int) {
		v, ok := rings[i].Take(nil)
		has[h][i] = ok && v == -1
	})
	for i, x := range rings {
		_, n := such(has[:], i)
		if got := all(x, nil, lengths, takes, puts(5), puts(6), puts(7), takes); n != 1 || !slices.Equal(got, []answer{long(0), none, okay, okay, full, took(5)}) {
			t.Fatalf("what follows: %d have the value: %v", n, got)
		}
	}
}

// TestBothAreHad: of those who put together into an empty ring two do; of those who take together from a full one two do, each another value.
func TestBothAreHad(t *testing.T) {
	empty, filled := newRings(0), newRings(2)
	var did [hands][meetings]bool
	var got [hands][meetings]answer
	aid.Together(hands, meetings, func(h, i int) {
		did[h][i] = empty[i].Put(nil, int64(h)) == api.OK
		got[h][i] = do(filled[i], nil, takes)
	})
	for i := range empty {
		_, n := such(did[:], i)
		l := all(empty[i], nil, takes, takes, takes)
		if n != 2 || !l[0].ok || !l[1].ok || l[2] != none || l[0] == l[1] || !did[l[0].v][i] || !did[l[1].v][i] {
			t.Fatalf("what follows: %d are put, %v are there", n, l)
		}
		var taken []answer
		for h := range got {
			if got[h][i] != none {
				taken = append(taken, got[h][i])
			}
		}
		if len(taken) != 2 || !slices.Contains(taken, took(-1)) || !slices.Contains(taken, took(-2)) || do(filled[i], nil, takes) != none {
			t.Fatalf("what follows: of -1 and -2 %v are taken", taken)
		}
	}
}

// newRings: of two places, with so many values, -1 and -2.
func newRings(values int) []*ring.Ring {
	l := make([]*ring.Ring, meetings)
	for i := range l {
		l[i] = size{2, aid.Positions()[i%len(aid.Positions())]}.ring()
		for k := range values {
			l[i].Put(nil, int64(-1-k))
		}
	}
	return l
}

// such: the last of the hands of which it is so at a meeting, and how many there are.
func such(is [][meetings]bool, i int) (who, n int) {
	for h := range is {
		if is[h][i] {
			who = h
			n++
		}
	}
	return who, n
}

// TestOneOrder: small programs of several hands: there is an order of all calls that were not refused in which a queue answers so, and is left so.
func TestOneOrder(t *testing.T) {
	for seed := range int64(4000) {
		r := rand.New(rand.NewSource(seed))
		of := size{2 << r.Intn(2), aid.Some(r.Intn, aid.Positions())}
		x := of.ring()
		var calls, done [4][]call
		var got [4][]answer
		for h := range calls {
			for i := range 4 {
				calls[h] = append(calls[h], call{op: r.Intn(2), v: int64(10*h + i)})
			}
		}
		aid.Beside(len(calls), func(h int) {
			for _, c := range calls[h] {
				if a := do(x, nil, c); a.e == api.OK && (c.op == put || a != none) {
					done[h], got[h] = append(done[h], c), append(got[h], a)
				}
			}
		})
		left := all(x, nil, empties(of.n)...)
		fits := func(s plain) bool { return asPlain(s, empties(of.n), left) }
		if !aid.Explained(done[:], got[:], of.plain(), does, fits) {
			t.Fatalf("what follows: seed %d: of %v no order of %+v answers %v and leaves what is left", seed, of, done, got)
		}
	}
}
