package count_test

import (
	"math"
	"math/rand"
	"slices"
	"sync/atomic"
	"testing"

	"treadle/aid"
	"treadle/api"
	"treadle/count"
)

const hands = 8

// TestAddsAddUp: of many hands, in each stripe and in all; sums go round.
func TestAddsAddUp(t *testing.T) {
	const each = 5000
	for _, stripes := range []int{1, 2, 3, api.MaxStripes} {
		for _, d := range []int64{1, -3, math.MaxInt64 / 7, math.MinInt64 / 5} {
			c, _ := count.New(stripes)
			aid.Beside(hands, func(h int) {
				for i := range each {
					c.Add(nil, h-i, d)
				}
			})
			want, all := make([]int64, stripes), int64(0)
			for h := range hands {
				for i := range each {
					want[stripeOf(h-i, stripes)] += d
					all += d
				}
			}
			free := c.Sum(nil)
			if l, n := held(c); !slices.Equal(l, want) || n != all || free != all {
				t.Errorf("what follows: %d stripes, %d each time: %v, %d, %d", stripes, d, l, n, free)
			}
		}
	}
}

// TestSumsAreBetween what had been added ahead, and what has been added since; and none of one hand falls.
func TestSumsAreBetween(t *testing.T) {
	const each = 20000
	c, _ := count.New(5)
	var begun, ended atomic.Int64
	aid.Beside(hands, func(h int) {
		last := int64(0)
		for i := range each {
			if h%2 == 0 {
				d := int64(i % 9)
				begun.Add(d)
				c.Add(nil, i, d)
				ended.Add(d)
				continue
			}
			least := ended.Load()
			n := c.Sum(nil)
			if most := begun.Load(); n < least || n > most || n < last {
				t.Errorf("what follows: a sum of %d, behind %d; added were %d to %d", n, last, least, most)
				return
			}
			last = n
		}
	})
	if n := c.Sum(nil); n != begun.Load() {
		t.Errorf("what follows: %d of %d", n, begun.Load())
	}
}

// TestPeaks: no value is risen to twice, the peak never falls, and it is the greatest in the end.
func TestPeaks(t *testing.T) {
	const each = 20000
	for _, from := range []int64{0, math.MinInt64, math.MaxInt64 - each - 100, -each / 2} {
		p := count.NewPeak(from)
		var rose [hands][]int64
		var greatest [hands]int64
		aid.Beside(hands, func(h int) {
			r := rand.New(rand.NewSource(int64(h)))
			greatest[h] = from
			for i := range each {
				v := from + int64(i) + r.Int63n(100)
				last, is := p.Top(nil), p.Raise(nil, v)
				now := p.Top(nil)
				greatest[h] = max(greatest[h], v)
				if is {
					rose[h] = append(rose[h], v)
				}
				if now < last || now < v || is && v <= last {
					t.Errorf("what follows: of %d Raise(%d) answers %v, behind it the peak is %d", last, v, is, now)
					return
				}
			}
		})
		top := slices.Max(greatest[:])
		all := slices.Concat(rose[:]...)
		slices.Sort(all)
		if p.Top(nil) != top || len(all) == 0 || all[len(all)-1] != top || len(slices.Compact(slices.Clone(all))) != len(all) {
			t.Errorf("what follows: the peak is %d, not %d; %d risen", p.Top(nil), top, len(all))
		}
		for h, l := range rose {
			if !slices.IsSorted(l) {
				t.Errorf("what follows: of the hand %d rose: %v", h, l)
			}
		}
	}
}

// TestNoPeakIsLost: of many peaks, so that the hands meet at some, each hand raises each to another value.
func TestNoPeakIsLost(t *testing.T) {
	peaks := make([]*count.Peak, 100000)
	for i := range peaks {
		peaks[i] = count.NewPeak(0)
	}
	var lost [hands]int
	aid.Beside(hands, func(h int) {
		for i, p := range peaks {
			v := int64((h+i)%hands) + 1
			is := p.Raise(nil, v)
			if n := p.Top(nil); n < v || !is && v == hands {
				lost[h]++
			}
		}
	})
	for _, p := range peaks {
		if p.Top(nil) != hands {
			lost[0]++
		}
	}
	if lost != [hands]int{} {
		t.Errorf("what follows: of %d peaks lost are %v", len(peaks), lost)
	}
}

// TestOneRises: of many hands that raise to one value just one does.
func TestOneRises(t *testing.T) {
	const rounds = 20000
	p := count.NewPeak(0)
	var rose [hands][rounds]bool
	aid.Beside(hands, func(h int) {
		for i := range rounds {
			rose[h][i] = p.Raise(nil, int64(i)+1)
		}
	})
	for i := range rounds {
		n := 0
		for h := range hands {
			if rose[h][i] {
				n++
			}
		}
		if n > 1 || i == rounds-1 && n != 1 {
			t.Fatalf("what follows: %d hands rise to %d", n, i+1)
		}
	}
}

// TestTicketsGoAround: while a hand has one to take it takes it; who has one can give it back; never more than all are out.
func TestTicketsGoAround(t *testing.T) {
	const each = 20000
	for _, n := range []int64{1, 3, hands - 1, hands, hands + 5} {
		k, _ := count.NewTickets(n)
		var out atomic.Int64
		var refused [hands]int
		aid.Beside(hands, func(h int) {
			for range each {
				if !k.Take(nil) {
					refused[h]++
					continue
				}
				if o := out.Add(1); o > n {
					t.Errorf("what follows: %d are out of %d", o, n)
				}
				if l := k.Left(nil); l < 0 || l >= n {
					t.Errorf("what follows: with one out %d of %d are left", l, n)
				}
				out.Add(-1)
				if e := k.Back(nil); e != api.OK {
					t.Errorf("what follows: Back of what is out: %d", e)
				}
			}
		})
		if k.Left(nil) != n || k.Back(nil) != api.ErrArg || n >= hands && refused != [hands]int{} {
			t.Errorf("what follows: %d of %d are left, refused were %v", k.Left(nil), n, refused)
		}
	}
}

// TestNoTicketIsLost: by hands that take and give back as fast as they can; where there are enough none is refused.
func TestNoTicketIsLost(t *testing.T) {
	const each = 100000
	for _, n := range []int64{2, hands, 2 * hands, 1000} {
		k, _ := count.NewTickets(n)
		var refused, kept [hands]int
		aid.Beside(hands, func(h int) {
			for range each {
				taken := 0
				for range 2 {
					if k.Take(nil) {
						taken++
					} else {
						refused[h]++
					}
				}
				for range taken {
					if k.Back(nil) != api.OK {
						kept[h]++
					}
				}
			}
		})
		if kept != [hands]int{} || k.Left(nil) != n || n >= 2*hands && refused != [hands]int{} {
			t.Errorf("what follows: %d of %d are left, refused %v, kept %v", k.Left(nil), n, refused, kept)
		}
	}
}

// TestTicketsAreSoMany: just so many are taken, and just so many are given back.
func TestTicketsAreSoMany(t *testing.T) {
	for _, n := range []int64{0, 1, 7, 1000, 30000} {
		k, _ := count.NewTickets(n)
		var taken, given atomic.Int64
		aid.Beside(hands, func(h int) {
			for k.Take(nil) {
				taken.Add(1)
			}
		})
		if taken.Load() != n || k.Left(nil) != 0 {
			t.Errorf("what follows: %d of %d are taken, %d left", taken.Load(), n, k.Left(nil))
		}
		aid.Beside(hands, func(h int) {
			for k.Back(nil) == api.OK {
				given.Add(1)
			}
		})
		if given.Load() != n || k.Left(nil) != n {
			t.Errorf("what follows: %d of %d are given back, %d left", given.Load(), n, k.Left(nil))
		}
	}
}

// TestOneOrder: small programs of several hands: there is an order of all their calls that explains what each was answered. (Of Sum with one stripe.)
func TestOneOrder(t *testing.T) {
	for seed := range int64(4000) {
		r := rand.New(rand.NewSource(seed))
		of := size{1, int64(r.Intn(3)), int64(r.Intn(3))}
		x := of.things()
		var calls [4][]call
		var got [4][]answer
		for h := range calls {
			for range 4 {
				calls[h] = append(calls[h], someCall(r, []int64{0, 1, 2, 3, 4, -1}))
			}
		}
		aid.Beside(len(calls), func(h int) { got[h] = x.all(nil, calls[h]...) })
		behind := state{x.counter.Sum(nil), x.peak.Top(nil), x.tickets.Left(nil), of.tickets}
		if !aid.Explained(calls[:], got[:], of.state(), does, func(s state) bool { return s == behind }) {
			t.Fatalf("what follows: seed %d: of %+v no order of %+v answers %v and leaves %+v", seed, of, calls, got, behind)
		}
	}
}
