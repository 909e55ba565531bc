package scope_test

import (
	"errors"
	"math/rand"
	"runtime"
	"slices"
	"strings"
	"sync/atomic"
	"testing"
	"testing/synctest"

	"treadle/aid"
	"treadle/api"
	"treadle/fault"
	"treadle/gate"
	"treadle/scope"
	"treadle/token"
)

// (What plain memory is handed on the race detector sees besides.)

const hands, meetings = 8, 40000

// asleep: a Wait in a goroutine of its own, and what it was told.
type asleep struct {
	answered bool
	got      error
}

// waiting: so many who wait; they have been answered, or sleep.
func waiting(th *gate.Thread, s *scope.Scope, n int) (l []*asleep) {
	for range n {
		a := &asleep{}
		l = append(l, a)
		go func() {
			a.got = s.Wait(th)
			a.answered = true
		}()
	}
	synctest.Wait()
	return l
}

// answered: how many of them were.
func answered(l []*asleep) (n int) {
	for _, a := range l {
		n += aid.Digit(a.answered)
	}
	return n
}

// TestWhoWaitsSleeps until the last task has ended, by whatever thread that does not live; who comes later does not. (In a bubble of synctest Wait answers when all others sleep: who goes round and looks does not; a bubble whose goroutines all sleep for good fails.)
func TestWhoWaitsSleeps(t *testing.T) {
	defer inTime()()
	for _, th := range aid.FreeThreads() {
		for _, fails := range []error{nil, &fault.Failed{Code: 3}} {
			synctest.Test(t, func(t *testing.T) {
				s := newScope(th)
				goes := make([]chan int, 3)
				for i := range goes {
					goes[i] = make(chan int)
					s.Go(nil, func(_ *gate.Thread, k *token.Token) error {
						<-goes[i]
						if i == 1 {
							return fails
						}
						return nil
					})
				}
				var l []*asleep
				for i := range goes {
					if l = append(l, waiting(th, s, 3)...); answered(l) != 0 {
						t.Errorf("what follows: %d answer, where %d of 3 have ended", answered(l), i)
					}
					if n, e := s.Go(nil, panics("never")); n != 0 || e != api.ErrClosed || s.Close(th) {
						t.Errorf("P19.2, P19.3: %d %d", n, e)
					}
					close(goes[i])
					synctest.Wait()
				}
				l = append(l, waiting(th, s, 3)...)
				for i, a := range l {
					if !a.answered || (fails == nil) != (a.got == nil) || fails != nil && !tells(a.got, 2, fails) {
						t.Errorf("what follows: the Wait %d is told %v", i, a.got)
					}
				}
			})
		}
	}
}

// TestAFailureWakes: tasks that wait for their token are woken by one that fails, and end.
func TestAFailureWakes(t *testing.T) {
	defer inTime()()
	synctest.Test(t, func(t *testing.T) {
		s := newScope(nil)
		var woken atomic.Int64
		for range 5 {
			s.Go(nil, func(_ *gate.Thread, k *token.Token) error {
				woken.Add(k.Wait(nil))
				return errors.New("late")
			})
			synctest.Wait() // one of them moves at a time
		}
		goes := make(chan int)
		own := errors.New("own")
		n, _ := s.Go(nil, func(*gate.Thread, *token.Token) error { <-goes; return own })
		if synctest.Wait(); woken.Load() != 0 || n != 6 {
			t.Errorf("P19.2: some are woken: %d; %d", woken.Load(), n)
		}
		close(goes)
		if e := s.Wait(nil); !tells(e, 6, own) || woken.Load() != 5*scope.Failed {
			t.Errorf("P19.4: %v: the reasons are %d together", e, woken.Load())
		}
	})
}

// point: a scope at which hands meet, and what comes of it.
type point struct {
	s           *scope.Scope
	begun, over atomic.Int64 // of the tasks
	closed      atomic.Int64 // how many Closes answered true
	wrong       atomic.Int64
	got         []heard
}

// heard: what a hand was told at a meeting.
type heard struct {
	numbers []int
	errs    []error // of the tasks with these numbers
	refused int
	plain   int // what its tasks lay, one behind the other
	told    []error
	since   int64 // how many tasks had begun when it was told for the first time
}

func newPoint(hands int) *point { return &point{s: newScope(nil), got: make([]heard, hands)} }

func (p *point) fault(is bool) { p.wrong.Add(int64(aid.Digit(is))) }

// begins a task that answers this.
func (p *point) begins(a *heard, e error, yields bool) {
	n, no := p.s.Go(nil, func(u *gate.Thread, k *token.Token) error {
		p.begun.Add(1)
		p.fault(u != nil || k != p.s.Token())
		if a.plain++; yields { // a hand has one task at a time, or lays no more till it has waited
			runtime.Gosched()
		}
		p.over.Add(1)
		return e
	})
	if no != api.OK {
		a.refused++
		p.fault(no != api.ErrClosed || n != 0)
		return
	}
	a.numbers, a.errs = append(a.numbers, n), append(a.errs, e)
}

func (p *point) closes() { p.closed.Add(int64(aid.Digit(p.s.Close(nil)))) }

// waits, and sees what all tasks did.
func (p *point) waits(a *heard) {
	e := p.s.Wait(nil)
	over, begun := p.over.Load(), p.begun.Load()
	p.fault(over != begun)
	if len(a.told) == 0 {
		a.since = begun
	}
	a.told = append(a.told, e)
	plain := 0
	for i := range p.got {
		plain += p.got[i].plain
	}
	p.fault(int64(plain) != begun)
}

// holds: what is found when all hands have ended.
func (p *point) holds() string {
	last := p.s.Wait(nil)
	var numbers []int
	var errs []error
	for _, a := range p.got {
		numbers, errs = append(numbers, a.numbers...), append(errs, a.errs...)
		for _, e := range a.told {
			if (e == nil) != (last == nil) || e != nil && (e.Error() != last.Error() || errors.Unwrap(e) != errors.Unwrap(last)) {
				return "two are told unlike things"
			}
		}
		if len(a.told) > 0 && a.since != p.begun.Load() {
			return "a task is begun behind a Wait's end"
		}
	}
	if p.wrong.Load() != 0 || p.closed.Load() > 1 || int(p.begun.Load()) != len(numbers) || p.over.Load() != p.begun.Load() {
		return "something is amiss, or not all were called, once"
	}
	failed := slices.ContainsFunc(errs, func(e error) bool { return e != nil })
	if failed != (last != nil) || failed != (p.s.Token().Reason(nil) == scope.Failed) {
		return "a failure is not told, or one that there is not"
	}
	if failed {
		at := slices.Index(numbers, fault.Numbers(last)[0])
		if at < 0 || !tells(last, numbers[at], errs[at]) || errs[at] == nil {
			return "what is told is no failure"
		}
	}
	slices.Sort(numbers)
	for i, n := range numbers {
		if n != i+1 {
			return "the numbers are not those that are to be given out"
		}
	}
	return ""
}

// meet: so many hands meet, each time at another scope.
func meet(t *testing.T, hands, meetings int, f func(p *point, hand, i int, a *heard)) []*point {
	t.Helper()
	all := make([]*point, meetings)
	for i := range all {
		all[i] = newPoint(hands)
	}
	defer inTime()()
	aid.Together(hands, meetings, func(h, i int) { f(all[i], h, i, &all[i].got[h]) })
	for i, p := range all {
		if s := p.holds(); s != "" {
			t.Fatalf("what follows: at the meeting %d of %d: %s: %+v; %d begun, %d over, %d closed, %d wrong", i, hands, s, p.got, p.begun.Load(), p.over.Load(), p.closed.Load(), p.wrong.Load())
		}
	}
	return all
}

// ownError: a hand's.
func ownError(h int) error { return &fault.Failed{Code: int64(h)} }

// TestGosMeet: all who begin together do; who fails first is told of.
func TestGosMeet(t *testing.T) {
	firsts := map[int]int{}
	for _, n := range []int{2, 3, hands} { // few may go at one time where the machine has few processors
		for _, p := range meet(t, n, meetings, func(p *point, h, i int, a *heard) {
			var e error
			if i%3 > 0 && (h+i)%2 == 0 {
				e = ownError(h)
			}
			p.begins(a, e, i%5 == 0)
		}) {
			for _, a := range p.got {
				if a.refused != 0 {
					t.Fatalf("P19.2: %+v", p.got)
				}
			}
			if l := fault.Numbers(p.s.Wait(nil)); len(l) > 0 {
				firsts[l[0]]++
			}
		}
	}
	if firsts[1] < 10 || firsts[2] < 10 {
		t.Errorf("the hands are no good: %v", firsts)
	}
}

// TestClosesMeet: of those who close together one does.
func TestClosesMeet(t *testing.T) {
	for _, n := range []int{2, 3, hands} {
		for _, p := range meet(t, n, meetings, func(p *point, h, i int, a *heard) { p.closes() }) {
			if p.closed.Load() != 1 {
				t.Fatalf("P19.3: %d close", p.closed.Load())
			}
		}
	}
}

// TestGosMeetACloseAndAWait: either a task is begun, and is waited for, or it is refused.
func TestGosMeetACloseAndAWait(t *testing.T) {
	for _, n := range []int{2, 2, 3, hands} {
		begun, refused := 0, 0
		for _, p := range meet(t, n, meetings, func(p *point, h, i int, a *heard) {
			switch (h + i) % n {
			case 0:
				if i%3 == 0 {
					p.closes()
				}
				p.waits(a)
				p.begins(a, nil, false)
			default:
				p.begins(a, []error{nil, ownError(h)}[h%2], i%4 == 0)
				if i%7 == 0 {
					p.waits(a)
				}
			}
		}) {
			begun += int(p.begun.Load())
			for _, a := range p.got {
				refused += a.refused
			}
		}
		if refused -= meetings; begun < 100 || refused < 20 {
			t.Errorf("the hands are no good: of %d %d begin, %d are refused", n, begun, refused)
		}
	}
}

// TestWaitsMeet: all who wait are told the same, behind the end of all tasks.
func TestWaitsMeet(t *testing.T) {
	for _, n := range []int{2, 3, hands} {
		meet(t, n, meetings/2, func(p *point, h, i int, a *heard) {
			if h == i%n {
				p.begins(a, ownError(1), true)
				p.waits(a)
				return
			}
			p.begins(a, []error{nil, ownError(h)}[i%2], i%2 == 0)
			p.waits(a)
			p.waits(a)
		})
	}
}

// allMeet: some begin, some close, some wait.
func allMeet(p *point, h, i int, a *heard) {
	switch (h + i) % 4 {
	case 0:
		p.begins(a, nil, true)
		p.closes()
	case 1:
		p.begins(a, ownError(h), false)
		p.waits(a)
	case 2:
		p.waits(a)
		p.begins(a, ownError(h), false)
	default:
		p.begins(a, []error{nil, ownError(h)}[i%2], false)
	}
}

func TestAllMeet(t *testing.T) { meet(t, hands, meetings, allMeet) }

// TestStoppedByTheMachine: the same, where there are more hands than the machine lets go at one time, so that it stops them in the midst of their calls for a while.
func TestStoppedByTheMachine(t *testing.T) {
	defer runtime.GOMAXPROCS(runtime.GOMAXPROCS(4 * hands))
	meet(t, 3*hands, meetings/5, allMeet)
}

// TestAllAreJoined: when a Wait has answered no goroutine of a task is in the midst of what it does any more.
func TestAllAreJoined(t *testing.T) {
	defer inTime()()
	stacks := make([]byte, 1<<20)
	for i := range 3000 {
		s := newScope(nil)
		for range 1 + i%hands {
			s.Go(nil, []function{nothing, answers(errors.New("x")), panics("x")}[i%3])
		}
		s.Wait(nil)
		if all := string(stacks[:runtime.Stack(stacks, true)]); strings.Contains(all, "treadle/scope.(*Scope)") && strings.Contains(strings.ReplaceAll(all, "created by treadle/scope.(*Scope)", ""), "treadle/scope.(*Scope)") {
			t.Fatalf("P19.4: %d: somebody goes on:\n%s", i, all)
		}
	}
}

// TestNumbersMeet: hands that begin more tasks than there may be: each number is given out once.
func TestNumbersMeet(t *testing.T) {
	defer inTime()()
	for range 3 {
		s := newScope(nil)
		var called, full, wrong atomic.Int64
		var got [hands][]int
		aid.Beside(hands, func(h int) {
			for range api.MaxTasks/hands + 20 {
				n, e := s.Go(nil, func(*gate.Thread, *token.Token) error { called.Add(1); return nil })
				full.Add(int64(aid.Digit(e == api.ErrFull)))
				wrong.Add(int64(aid.Digit((e == api.OK) != (n > 0) || e != api.OK && e != api.ErrFull)))
				if n > 0 {
					got[h] = append(got[h], n)
				}
			}
		})
		e := s.Wait(nil)
		all := slices.Concat(got[:]...)
		slices.Sort(all)
		if e != nil || called.Load() != api.MaxTasks || full.Load() != 20*hands || wrong.Load() != 0 || len(slices.Compact(all)) != api.MaxTasks || all[0] != 1 || all[api.MaxTasks-1] != api.MaxTasks {
			t.Errorf("P19.2: %v: %d are called, %d refused, %d wrong", e, called.Load(), full.Load(), wrong.Load())
		}
	}
}

// TestTokensMeet: the token above is cancelled as scopes are made below it, and tasks of theirs fail: each has just one of the two reasons, and who waits for it is woken.
func TestTokensMeet(t *testing.T) {
	defer inTime()()
	reasons := map[int64]int{}
	for i := range meetings {
		k := token.New()
		got := make([]int64, 4)
		aid.Beside(len(got), func(h int) {
			if h == 0 {
				for range i % 8 {
					runtime.Gosched()
				}
				k.Cancel(nil, 9)
				return
			}
			s, e := scope.New(nil, k)
			if e != api.OK {
				t.Errorf("P19.1: %d", e)
				return
			}
			s.Go(nil, func(_ *gate.Thread, k *token.Token) error { got[h] = k.Wait(nil); return nil })
			if h == 1 {
				s.Go(nil, answers(ownError(i)))
			}
			if e := s.Wait(nil); (e != nil) != (h == 1) || e != nil && !errors.Is(e, api.ErrFailed) || s.Token().Reason(nil) != got[h] {
				t.Errorf("P19.4: %v", e)
			}
		})
		if got[1] != 2 && got[1] != 9 || got[2] != 9 || got[3] != 9 {
			t.Fatalf("W4: %v", got)
		}
		reasons[got[1]]++
	}
	if len(reasons) < 2 {
		t.Errorf("the hands are no good: %v", reasons)
	}
}

// crowd: a tree of scopes, whose tasks begin tasks, open scopes, close, fail, and wait for the scopes that they opened.
type crowd struct {
	left   atomic.Int64 // so many tasks there may be
	lives  atomic.Int64 // tasks whose functions have not ended
	failed atomic.Int64
	amiss  atomic.Int64
}

// task: of a scope, made from a seed.
func (x *crowd) task(s *scope.Scope, seed int64, lives *atomic.Int64) function {
	return func(u *gate.Thread, k *token.Token) error {
		lives.Add(1)
		defer lives.Add(-1)
		r := rand.New(rand.NewSource(seed))
		for range r.Intn(4) {
			if x.left.Add(-1) < 0 {
				break
			}
			next := seed*7 + int64(r.Intn(1000))
			switch r.Intn(6) {
			case 0:
				below, e := scope.New(nil, k)
				if e == api.OK {
					x.waits(below, next, r)
				}
				x.amiss.Add(int64(aid.Digit(e != api.OK && e != api.ErrFull && e != api.ErrDeep)))
			case 1:
				s.Close(nil)
			default:
				s.Go(nil, x.task(s, next, lives))
			}
		}
		switch r.Intn(12) {
		case 0:
			x.failed.Add(1)
			panic("x")
		case 1:
			x.failed.Add(1)
			return ownError(int(seed))
		}
		return nil
	}
}

// waits begins some tasks of a scope, and waits for them all.
func (x *crowd) waits(s *scope.Scope, seed int64, r *rand.Rand) {
	var lives atomic.Int64
	for i := range 1 + r.Intn(4) {
		s.Go(nil, x.task(s, seed+int64(i), &lives))
	}
	e := s.Wait(nil)
	n, no := s.Go(nil, panics("never"))
	again := s.Wait(nil)
	reason := s.Token().Reason(nil)
	x.amiss.Add(int64(aid.Digit(lives.Load() != 0 || n != 0 || no != api.ErrClosed || (e != nil) != (again != nil) || e != nil && (reason == 0 || errors.Unwrap(e) != errors.Unwrap(again)) || e == nil && reason != 0 && reason != scope.Failed)))
}

// TestCrowds: trees of scopes.
func TestCrowds(t *testing.T) {
	defer inTime()()
	failed := int64(0)
	for seed := range int64(1500) {
		x := &crowd{}
		x.left.Store(300)
		aid.Beside(3, func(h int) {
			r := rand.New(rand.NewSource(3*seed + int64(h)))
			x.waits(newScope(nil), 3*seed+int64(h), r)
		})
		if x.amiss.Load() != 0 {
			t.Fatalf("what follows: seed %d: %d times amiss", seed, x.amiss.Load())
		}
		failed += x.failed.Load()
	}
	if failed < 1000 {
		t.Errorf("the tasks are no good: %d failed", failed)
	}
}
