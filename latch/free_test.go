package latch_test

import (
	"math/rand"
	"runtime"
	"slices"
	"sync"
	"sync/atomic"
	"testing"
	"testing/synctest"

	"treadle/aid"
	"treadle/api"
	"treadle/gate"
	"treadle/latch"
)

// Most of it is in bubbles of synctest: there Wait answers when all others sleep (who goes round and looks does not), and a bubble whose goroutines all sleep for good fails. (What plain memory is handed on the race detector sees besides.)

const hands, meetings = 8, 100000

// asleep: a goroutine that makes a call, and what that was answered.
type asleep struct {
	answered bool
	got      answer
}

// begun: goroutines that make each one of these calls; they have been answered, or sleep.
func (x things) begun(th *gate.Thread, calls ...call) []*asleep {
	var l []*asleep
	for _, c := range calls {
		s := &asleep{}
		l = append(l, s)
		go func() {
			s.got = x.do(th, c)
			s.answered = true
		}()
	}
	synctest.Wait()
	return l
}

// answers: of those that were answered.
func answers(l []*asleep) []answer {
	synctest.Wait()
	var got []answer
	for _, s := range l {
		if s.answered {
			got = append(got, s.got)
		}
	}
	return got
}

// TestWhoWaitsSleeps till the latch comes to 0, by whatever thread that does not live; who comes later does not.
func TestWhoWaitsSleeps(t *testing.T) {
	waits := slices.Repeat([]call{{op: wait}}, 5)
	for _, th := range aid.FreeThreads() {
		synctest.Test(t, func(t *testing.T) {
			x := size{9, 1}.things()
			l := x.begun(th, waits...)
			for _, k := range []int64{1, 3, 0, 6, -1, 4} {
				x.latch.Down(th, k)
				if got := answers(l); len(got) > 0 {
					t.Errorf("what follows: with %d left Wait answers %v", x.latch.Left(th), got)
				}
			}
			more := x.begun(th, waits...)
			x.latch.Down(th, 1)
			for what, l := range map[string][]*asleep{"from 9 on": l, "from 1 on": more, "behind its end": x.begun(th, waits...)} {
				if got := answers(l); !slices.Equal(got, make([]answer, 5)) {
					t.Errorf("what follows: who waits %s: %v", what, got)
				}
			}
		})
	}
}

// TestWhoLocksSleeps while another one has the lock: each Unlock lets one in, and no more.
func TestWhoLocksSleeps(t *testing.T) {
	for _, th := range aid.FreeThreads() {
		synctest.Test(t, func(t *testing.T) {
			x := size{0, 1}.things()
			x.lock.Lock(th)
			l := x.begun(th, slices.Repeat([]call{{op: lock}}, 5)...)
			for i := range 5 {
				if got := answers(l); !slices.Equal(got, make([]answer, i)) || x.lock.Try(th) {
					t.Errorf("what follows: behind %d Unlocks: %v", i, got)
				}
				if e := x.lock.Unlock(th); e != api.OK {
					t.Errorf("P5.2: Unlock: %d", e)
				}
			}
			if got := answers(l); len(got) != 5 {
				t.Errorf("what follows: %v", got)
			}
			if got := x.all(th, call{op: unlock}, call{op: unlock}, call{op: try}, call{op: try}); !slices.Equal(got, []answer{{}, {e: api.ErrState}, {ok: true}, {}}) {
				t.Errorf("P5.2: %v", got)
			}
		})
	}
}

// TestWhoArrivesSleeps till the last one comes.
func TestWhoArrivesSleeps(t *testing.T) {
	for _, th := range aid.FreeThreads() {
		for _, n := range []int64{2, 3, 9} {
			synctest.Test(t, func(t *testing.T) {
				x := size{0, n}.things()
				for round := range int64(3) {
					l := x.begun(th, slices.Repeat([]call{{op: arrive}}, int(n)-1)...)
					if got := answers(l); len(got) > 0 {
						t.Errorf("what follows: %d of %d: %v", n-1, n, got)
					}
					if got, want := x.do(th, call{op: arrive}), (answer{n: round, ok: true}); got != want {
						t.Errorf("P5.3: the last one of %d is told %v", n, got)
					}
					if got := answers(l); !slices.Equal(got, slices.Repeat([]answer{{n: round}}, int(n)-1)) {
						t.Errorf("what follows: the others of %d are told %v", n, got)
					}
				}
			})
		}
	}
}

// TestLatchesOpen: latches that come to 0 just as others are about to wait: who waits is answered, behind all Downs, and sees what was done ahead of them.
func TestLatchesOpen(t *testing.T) {
	synctest.Test(t, func(t *testing.T) {
		for round := range 5000 {
			downers, each := 1+round%4, int64(1+round%3)
			l, _ := latch.New(int64(downers) * each)
			plain := make([]int, downers)
			var begun atomic.Int64
			var early atomic.Bool
			aid.Beside(downers+3, func(h int) {
				if h < downers {
					plain[h] = 1
					for range each {
						begun.Add(1)
						if e := l.Down(nil, 1); e != api.OK {
							early.Store(true)
						}
					}
					if h%2 == 0 {
						return
					}
				}
				if round%2 == 0 {
					runtime.Gosched()
				}
				e, n := l.Wait(nil), begun.Load()
				if e != api.OK || n != int64(downers)*each || slices.Contains(plain, 0) || l.Left(nil) != 0 {
					early.Store(true)
				}
			})
			if early.Load() {
				t.Fatalf("what follows: a Wait of %d times %d is answered ahead of the last Down, or a Down is refused", downers, each)
			}
		}
	})
}

// TestDownsAddUp: what was taken, and what is left; it never rises, and is never out of 0 to n. Who is refused asked for more than what is left.
func TestDownsAddUp(t *testing.T) {
	for _, n := range []int64{0, 1, 100, 30000, 300000} {
		for _, most := range []int64{1, 2, hands} {
			l, _ := latch.New(n)
			var taken [hands]int64
			aid.Beside(hands, func(h int) {
				k := int64(h)%most + 1
				for last := n; ; {
					e := l.Down(nil, k)
					now := l.Left(nil)
					if now < 0 || now > last || e != api.OK && now >= k || e == api.OK && now > last-k {
						t.Errorf("what follows: behind %d Down(%d) of %d answers %d, then %d are left", last, k, n, e, now)
						return
					}
					if e != api.OK {
						return
					}
					taken[h], last = taken[h]+k, now
				}
			})
			all := int64(0)
			for _, k := range taken {
				all += k
			}
			if left := l.Left(nil); all+left != n || most == 1 && left != 0 {
				t.Errorf("what follows: of %d %d are taken, %d left", n, all, left)
			}
		}
	}
}

// TestOneIsLast: of one Down too many just one is refused.
func TestOneIsLast(t *testing.T) {
	latches := make([]*latch.Latch, meetings)
	for i := range latches {
		latches[i], _ = latch.New(hands - 1)
	}
	var refused [hands][meetings]bool
	aid.Together(hands, meetings, func(h, i int) { refused[h][i] = latches[i].Down(nil, 1) != api.OK })
	for i, l := range latches {
		if n := such(refused[:], i); n != 1 || l.Left(nil) != 0 {
			t.Fatalf("what follows: %d are refused, %d left", n, l.Left(nil))
		}
	}
}

// such: of how many hands it is so at a meeting.
func such(is [][meetings]bool, i int) int {
	n := 0
	for h := range is {
		if is[h][i] {
			n++
		}
	}
	return n
}

// TestOneHoldsIt: nobody else has a lock while one has; what he did the next one sees. W3: all who lock it come to it.
func TestOneHoldsIt(t *testing.T) {
	const each = 20000
	for _, hands := range []int{2, 3, 8} {
		synctest.Test(t, func(t *testing.T) {
			k := latch.NewLock()
			plain, has := 0, -1 // of whoever has the lock
			var wrong atomic.Int64
			aid.Beside(hands, func(h int) {
				for i := range each {
					if i%3 != 0 || !k.Try(nil) {
						k.Lock(nil)
					}
					if has != -1 {
						wrong.Add(1)
					}
					has = h
					plain++
					if i%16 == 0 {
						runtime.Gosched() // so that others come to sleep
					}
					if has != h || k.Try(nil) {
						wrong.Add(1)
					}
					has = -1
					if k.Unlock(nil) != api.OK {
						wrong.Add(1)
					}
				}
			})
			if plain != hands*each || wrong.Load() != 0 || !k.Try(nil) {
				t.Errorf("what follows: %d of %d, %d wrong", plain, hands*each, wrong.Load())
			}
		})
	}
}

// TestOneIsIn: of those who come to a lock together one is in at a time.
func TestOneIsIn(t *testing.T) {
	synctest.Test(t, func(t *testing.T) {
		k := latch.NewLock()
		var in, wrong atomic.Int64
		aid.Together(hands, meetings, func(h, i int) {
			tries := i%4 == 0 && h%2 == 0
			if tries && !k.Try(nil) {
				return
			}
			if !tries {
				k.Lock(nil)
			}
			if in.Add(1) != 1 {
				wrong.Add(1)
			}
			in.Add(-1)
			if k.Unlock(nil) != api.OK {
				wrong.Add(1)
			}
		})
		if wrong.Load() != 0 || k.Unlock(nil) != api.ErrState {
			t.Errorf("what follows: %d times another one is in", wrong.Load())
		}
	})
}

// TestOneTries: of those who try a lock that is free just one has it.
func TestOneTries(t *testing.T) {
	locks := newLocks(meetings)
	var has [hands][meetings]bool
	aid.Together(hands, meetings, func(h, i int) { has[h][i] = locks[i].Try(nil) })
	for i, k := range locks {
		if n := such(has[:], i); n != 1 || k.Unlock(nil) != api.OK {
			t.Fatalf("what follows: %d have it", n)
		}
	}
}

// TestOneUnlocks: of those who unlock a lock that is held just one does; the others are told.
func TestOneUnlocks(t *testing.T) {
	locks := newLocks(meetings)
	for _, k := range locks {
		k.Try(nil)
	}
	var did [hands][meetings]bool
	aid.Together(hands, meetings, func(h, i int) { did[h][i] = locks[i].Unlock(nil) == api.OK })
	for i, k := range locks {
		if n := such(did[:], i); n != 1 || !k.Try(nil) {
			t.Fatalf("P5.2: %d unlock it", n)
		}
	}
}

func newLocks(n int) []*latch.Lock {
	l := make([]*latch.Lock, n)
	for i := range l {
		l[i] = latch.NewLock()
	}
	return l
}

// TestAnotherUnlocks: one locks, another one unlocks, again and again; none sleeps for good.
func TestAnotherUnlocks(t *testing.T) {
	synctest.Test(t, func(t *testing.T) {
		const rounds = 5000
		k, order := latch.NewLock(), make(chan int)
		var all sync.WaitGroup
		all.Go(func() {
			for i := range rounds {
				k.Lock(nil)
				order <- i
			}
			close(order)
		})
		next := 0
		for i := range order {
			if e := k.Unlock(nil); e != api.OK || i != next {
				t.Errorf("P5.2: Unlock number %d: %d", i, e)
			}
			next++
		}
		if all.Wait(); next != rounds {
			t.Errorf("P5.2: %d rounds", next)
		}
	})
}

// TestRounds: hands that go through a barrier again and again: in each round one is last, nobody is let go ahead of his coming, and all see what was done ahead of it.
func TestRounds(t *testing.T) {
	for _, hands := range []int{1, 2, 3, 8} {
		synctest.Test(t, func(t *testing.T) {
			rounds := 200000 / hands
			b, _ := latch.NewBarrier(int64(hands))
			plain, lasts := make([][]int, rounds), make([]atomic.Int64, rounds)
			for i := range plain {
				plain[i] = make([]int, hands)
			}
			var wrong, begun atomic.Int64
			aid.Beside(hands, func(h int) {
				for i := range rounds {
					plain[i][h] = 1
					begun.Add(1)
					r, last, e := b.Arrive(nil)
					if r != int64(i) || e != api.OK || begun.Load() < int64((i+1)*hands) || slices.Contains(plain[i], 0) {
						wrong.Add(1)
					}
					if last {
						lasts[i].Add(1)
					}
				}
			})
			for i := range lasts {
				if n := lasts[i].Load(); n != 1 {
					t.Fatalf("what follows: %d of %d are last in the round %d", n, hands, i)
				}
			}
			if wrong.Load() != 0 {
				t.Errorf("what follows: %d hands: %d times the round is wrong, or one is let go too early", hands, wrong.Load())
			}
		})
	}
}

// TestOneOrder: small programs of several hands: there is an order of all their calls that explains what each was answered. None sleeps for good: the first hand brings the latch to 0 ahead of all else, and who locks or tries unlocks at once.
func TestOneOrder(t *testing.T) {
	synctest.Test(t, func(t *testing.T) {
		for seed := range int64(4000) {
			oneOrder(t, rand.New(rand.NewSource(seed)), seed)
		}
	})
}

func oneOrder(t *testing.T, r *rand.Rand, seed int64) {
	of := size{int64(r.Intn(4)), 1}
	calls := [][]call{slices.Repeat([]call{{op: down, n: 1}}, int(of.latch)), nil, nil, nil}
	for h := range calls {
		for range 3 {
			calls[h] = append(calls[h], [][]call{{{op: down, n: int64(r.Intn(4))}}, {{op: left}}, {{op: wait}}, {{op: lock}, {op: unlock}}, {{op: try}, {op: unlock}}}[r.Intn(5)]...)
		}
	}
	x, got := of.things(), make([][]answer, len(calls))
	aid.Beside(len(calls), func(h int) { got[h] = x.all(nil, calls[h]...) })
	if held := x.inside(); held != [4]int64{} {
		t.Fatalf("what follows: seed %d: %+v leave %v", seed, calls, held)
	}
	if !aid.Explained(calls, got, of.state(), does, func(s state) bool { return s.left == 0 && !s.taken }) {
		t.Fatalf("what follows: seed %d: of %+v no order of %+v answers %v", seed, of, calls, got)
	}
}
