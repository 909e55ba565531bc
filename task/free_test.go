package task_test

import (
	"errors"
	"io"
	"math/rand"
	"runtime"
	"slices"
	"sync/atomic"
	"testing"
	"testing/synctest"

	"treadle/aid"
	"treadle/api"
	"treadle/fault"
	"treadle/gate"
	"treadle/task"
	"treadle/token"
)

// (What plain memory is handed on the race detector sees besides.)

const hands, meetings = 8, 20000

// asleep: a Wait in a goroutine of its own, and what it was told.
type asleep struct {
	answered bool
	got      aid.Answer
}

// begun: so many who wait; they have been answered, or sleep.
func begun(th *gate.Thread, x *task.Task, n int) (l []*asleep) {
	for range n {
		s := &asleep{}
		l = append(l, s)
		go func() {
			s.got = aid.Told(x.Wait(th))
			s.answered = true
		}()
	}
	synctest.Wait()
	return l
}

// TestWhoWaitsSleeps until the task is settled, by whatever thread that does not live; who comes later does not. (In a bubble of synctest Wait answers when all others sleep: who goes round and looks does not; a bubble whose goroutines all sleep for good fails.)
func TestWhoWaitsSleeps(t *testing.T) {
	defer inTime()()
	for _, th := range aid.FreeThreads() {
		for what, row := range map[string]struct {
			e       error // what the function answers
			settles func(x *task.Task, k *token.Token) bool
			runs    bool
			want    string
		}{
			"run":              {nil, func(x *task.Task, _ *token.Token) bool { return x.Run(th) }, true, "5"},
			"run, and it fell": {&fault.Late{Due: 4}, func(x *task.Task, _ *token.Token) bool { return x.Run(th) }, true, "late_4"},
			"cancelled":        {nil, func(x *task.Task, _ *token.Token) bool { return x.Cancel(th, 6) }, false, "cancelled:6"},
			"dropped":          {nil, func(x *task.Task, k *token.Token) bool { return k.Cancel(th, 6) && !x.Run(th) }, false, "cancelled:6"},
		} {
			synctest.Test(t, func(t *testing.T) {
				k, goes := token.New(), make(chan int)
				x := task.New(1, k, func(*gate.Thread) (int64, error) {
					<-goes
					return 5, row.e
				})
				l := begun(th, x, 5)
				if x.Cancel(th, 0); answered(l) != 0 {
					t.Errorf("what follows: %s: %d answer ahead of the claim", what, answered(l))
				}
				did := false
				go func() { did = row.settles(x, k) }()
				l = append(l, begun(th, x, 5)...)
				if row.runs && (answered(l) != 0 || x.State(th) != task.Claimed) {
					t.Errorf("what follows: %s: %d answer as the function runs", what, answered(l))
				}
				close(goes)
				l = append(l, begun(th, x, 5)...)
				for i, s := range l {
					if s.got.String() != row.want || s.got != l[0].got {
						t.Errorf("what follows: %s: the Wait %d is told %v, not %s", what, i, s.got, row.want)
					}
				}
				if answered(l) != len(l) || !did {
					t.Errorf("what follows: %s: %d answer; it is done: %v", what, answered(l), did)
				}
			})
		}
	}
}

// answered: how many of them were.
func answered(l []*asleep) (n int) {
	for _, s := range l {
		n += aid.Digit(s.answered)
	}
	return n
}

// point: a task at which hands meet, and what comes of it.
type point struct {
	x      *task.Task
	k      *token.Token
	called atomic.Int64
	over   atomic.Bool
	plain  int // what the function lays
	want   string
	got    []heard
}

// heard: what a hand was told at a meeting.
type heard struct {
	ran, cancelled int // how many of its calls answered true
	reason         int64
	barred         bool // nobody had claimed the task when the token was cancelled
	told           []aid.Answer
	wrong          int
}

var errOwn = errors.New("own")

// newPoint: the meeting number i.
func newPoint(i, hands int) *point {
	m := &point{k: token.New(), got: make([]heard, hands)}
	n := int64(i + 7)
	m.want = []string{aid.Told(n, nil).String(), "own", aid.Told(0, &fault.Panicked{Value: n}).String()}[i%3]
	m.x = task.New(int64(i), m.k, func(*gate.Thread) (int64, error) {
		m.called.Add(1)
		m.plain = i + 1
		if i%5 == 0 {
			runtime.Gosched()
		}
		m.over.Store(true)
		switch i % 3 {
		case 1:
			return n, errOwn
		case 2:
			panic(n)
		}
		return n, nil
	})
	return m
}

func (m *point) runs(a *heard) {
	ran := m.x.Run(nil)
	a.ran += aid.Digit(ran)
	a.wrong += aid.Digit(ran && !m.over.Load())
}

func (m *point) cancels(a *heard, reason int64) {
	if m.x.Cancel(nil, reason) {
		a.cancelled++
		a.reason = reason
	}
}

// stops cancels the token. Whoever claims the task behind that finds the reason.
func (m *point) stops(a *heard, reason int64) {
	m.k.Cancel(nil, reason)
	a.barred = m.x.State(nil) == task.Waits
}

// waits: the task is one that somebody settles. Whoever is told of the function's end sees what it did.
func (m *point) waits(a *heard, i int) {
	last := aid.Told(m.x.Wait(nil))
	a.told = append(a.told, last)
	if fault.Class(last.E) != api.ErrCancelled {
		a.wrong += aid.Digit(!m.over.Load()) + aid.Digit(m.plain != i+1)
	}
	s := task.Ended
	if last.E != nil {
		s = task.Fell
	}
	a.wrong += aid.Digit(m.x.State(nil) != s)
}

// holds: whether what the hands were told is as it is to be: just one of them did it, or the token's reason did; all are told the same.
func (m *point) holds() bool {
	var ran, cancelled, wrong int
	var reason int64
	last := aid.Told(m.x.Wait(nil))
	for _, a := range m.got {
		ran, cancelled, wrong = ran+a.ran, cancelled+a.cancelled, wrong+a.wrong
		reason += a.reason
		wrong += aid.Digit(a.barred && m.called.Load() > 0)
		wrong += aid.Digit(slices.ContainsFunc(a.told, func(x aid.Answer) bool { return x != last }))
	}
	want := m.want
	if ran == 0 {
		if cancelled == 0 {
			reason = m.k.Reason(nil)
		}
		want = aid.Told(0, &fault.Cancelled{Reason: reason}).String()
	}
	return wrong == 0 && ran+cancelled < 2 && (ran+cancelled == 1 || reason > 0) && m.called.Load() == int64(ran) && last.String() == want && !m.x.Run(nil) && !m.x.Cancel(nil, 9)
}

// meet: so many hands meet, each time at another task, which they settle. What they all were told there comes back.
func meet(t *testing.T, hands, meetings int, f func(m *point, hand, i int, a *heard)) []*point {
	t.Helper()
	all := make([]*point, meetings)
	for i := range all {
		all[i] = newPoint(i, hands)
	}
	defer inTime()()
	aid.Together(hands, meetings, func(h, i int) { f(all[i], h, i, &all[i].got[h]) })
	for i, m := range all {
		if !m.holds() {
			t.Fatalf("what follows: at the meeting %d: %+v; called %d times; it came to %v", i, m.got, m.called.Load(), aid.Told(m.x.Wait(nil)))
		}
	}
	return all
}

// TestRunsMeet: of those who run one task together one does.
func TestRunsMeet(t *testing.T) {
	for _, n := range []int{2, 2, 3, hands} { // few may go at one time where the machine has few processors
		all := meet(t, n, meetings, func(m *point, h, i int, a *heard) { m.runs(a) })
		for i, m := range all {
			if m.called.Load() != 1 {
				t.Fatalf("what follows: at the meeting %d it is called %d times", i, m.called.Load())
			}
		}
	}
}

// TestCancelsMeet: of those who cancel one task together one does: the reason is his.
func TestCancelsMeet(t *testing.T) {
	for _, n := range []int{2, 2, 3, hands} {
		all := meet(t, n, meetings, func(m *point, h, i int, a *heard) { m.cancels(a, int64(h+1)) })
		for i, m := range all {
			if m.called.Load() != 0 {
				t.Fatalf("what follows: at the meeting %d it is called %d times", i, m.called.Load())
			}
		}
	}
}

// TestRunsMeetCancels: either it is run, or it is cancelled.
func TestRunsMeetCancels(t *testing.T) {
	called := 0
	for _, n := range []int{2, 2, 3, hands} {
		all := meet(t, n, meetings, func(m *point, h, i int, a *heard) {
			if (h+i)%2 == 0 {
				m.runs(a)
			} else {
				m.cancels(a, int64(h+1))
			}
			m.waits(a, i)
		})
		for _, m := range all {
			called += int(m.called.Load())
		}
	}
	if called < 1000 || called > 4*meetings-1000 {
		t.Errorf("the calls are no good: %d of %d are run", called, 4*meetings)
	}
}

// TestWaitsMeetARun: whoever waits is told what it came to, behind its end.
func TestWaitsMeetARun(t *testing.T) {
	for _, n := range []int{2, 3, hands} {
		meet(t, n, meetings, func(m *point, h, i int, a *heard) {
			if h == i%n {
				m.runs(a)
			}
			m.waits(a, i)
			m.waits(a, i)
		})
	}
}

// TestWaitsMeetACancel: whoever waits is told of the reason.
func TestWaitsMeetACancel(t *testing.T) {
	for _, n := range []int{2, hands} {
		meet(t, n, meetings, func(m *point, h, i int, a *heard) {
			if h == i%n {
				m.cancels(a, int64(i+1))
			}
			m.waits(a, i)
		})
	}
}

// TestRunsMeetAToken: one cancels it meanwhile: either the task is run, or it is dropped, with that reason.
func TestRunsMeetAToken(t *testing.T) {
	called := 0
	for _, n := range []int{2, 2, 2, 3, hands} {
		all := meet(t, n, meetings, func(m *point, h, i int, a *heard) {
			if h == i%n {
				m.stops(a, 3)
			}
			m.runs(a)
			m.waits(a, i)
		})
		for _, m := range all {
			called += int(m.called.Load())
		}
	}
	if called < 1000 || called > 5*meetings-1000 {
		t.Errorf("the calls are no good: %d of %d are run", called, 5*meetings)
	}
}

// allMeet: some run, some cancel, one cancels the token, some wait.
func allMeet(m *point, h, i int, a *heard) {
	switch (h + i) % 4 {
	case 0:
		m.runs(a)
	case 1:
		m.cancels(a, int64(h+1))
	case 2:
		m.stops(a, 99)
		m.runs(a)
		m.cancels(a, int64(h+1))
	}
	m.waits(a, i)
}

func TestAllMeet(t *testing.T) { meet(t, hands, 2*meetings, allMeet) }

// TestStoppedByTheMachine: the same, where there are more hands than the machine lets go at one time, so that it stops them in the midst of their calls for a while.
func TestStoppedByTheMachine(t *testing.T) {
	defer runtime.GOMAXPROCS(runtime.GOMAXPROCS(4 * hands))
	meet(t, 3*hands, meetings/2, allMeet)
}

// crowd: tasks that run, cancel and wait for others that are behind them, and hands that do so from outside.
type crowd struct {
	all   []*task.Task
	k     []*token.Token
	calls []atomic.Int64 // of each function
	ends  []atomic.Int64
	done  []atomic.Int64 // of each task, how many Runs and Cancels answered true; a Cancel counts 1000 besides
	amiss atomic.Int64
}

func newCrowd(n int, seed int64) *crowd {
	x := &crowd{all: make([]*task.Task, n), calls: make([]atomic.Int64, n), ends: make([]atomic.Int64, n), done: make([]atomic.Int64, n)}
	for range 4 {
		x.k = append(x.k, token.New())
	}
	for i := range x.all {
		var k *token.Token
		if i%3 == 0 {
			k = x.k[i/3%len(x.k)]
		}
		x.all[i] = task.New(int64(i), k, func(*gate.Thread) (int64, error) {
			x.calls[i].Add(1)
			r := rand.New(rand.NewSource(seed + int64(i)))
			for range r.Intn(4) {
				if j := i + 1 + r.Intn(n); j < n {
					x.does(r, j)
				}
			}
			x.ends[i].Add(1)
			switch r.Intn(8) {
			case 0:
				panic(i)
			case 1:
				return int64(i), io.EOF
			}
			return int64(i), nil
		})
	}
	return x
}

// does makes a call of the task i. Who waits has seen to it that it is settled.
func (x *crowd) does(r *rand.Rand, i int) {
	y := x.all[i]
	switch r.Intn(6) {
	case 0, 1:
		x.done[i].Add(int64(aid.Digit(y.Run(nil))))
	case 2:
		x.done[i].Add(1001 * int64(aid.Digit(y.Cancel(nil, int64(1+r.Intn(9))))))
	case 3:
		was := y.State(nil)
		runtime.Gosched()
		x.amiss.Add(int64(aid.Digit(y.State(nil) < was)))
	default:
		x.done[i].Add(int64(aid.Digit(y.Run(nil))))
		x.waits(i)
	}
}

func (x *crowd) waits(i int) {
	v, e := x.all[i].Wait(nil)
	again, same := x.all[i].Wait(nil)
	x.amiss.Add(int64(aid.Digit(v != again || e != same || x.calls[i].Load() != x.ends[i].Load() || e == nil && v != int64(i) || e != nil && v != 0)))
}

// TestCrowds: hands that run, cancel and wait as they like, of tasks that do so, too.
func TestCrowds(t *testing.T) {
	const tasks = 60
	ran, cancelled, dropped := 0, 0, 0
	defer inTime()()
	for seed := range int64(1500) {
		x := newCrowd(tasks, 1000*seed)
		aid.Beside(hands, func(h int) {
			r := rand.New(rand.NewSource(seed*hands + int64(h)))
			for i := range 40 {
				if i == 5 && h < 3 {
					x.k[h].Cancel(nil, 77)
				}
				x.does(r, r.Intn(tasks))
			}
			for i := range x.all {
				x.done[i].Add(int64(aid.Digit(x.all[i].Run(nil))))
				x.waits(i)
			}
		})
		for i, y := range x.all {
			v, e := y.Wait(nil)
			called, done := x.calls[i].Load(), x.done[i].Load()
			var c *fault.Cancelled
			isOne := errors.As(e, &c)
			fits := called == 1 && done == 1 && !isOne || called == 0 && done == 1001 && isOne && c.Reason < 10 || called == 0 && done == 0 && isOne && c.Reason == 77 && i%3 == 0
			if !fits || x.amiss.Load() != 0 {
				t.Fatalf("what follows: seed %d: the task %d: called %d times, done %d: %d %v; %d times amiss", seed, i, called, done, v, e, x.amiss.Load())
			}
			ran, cancelled, dropped = ran+aid.Digit(called == 1), cancelled+aid.Digit(done == 1001), dropped+aid.Digit(done == 0)
		}
	}
	if ran < 1000 || cancelled < 1000 || dropped < 200 {
		t.Errorf("the hands are no good: %d ran, %d are cancelled, %d dropped", ran, cancelled, dropped)
	}
}
