package token_test

import (
	"math/rand"
	"runtime"
	"slices"
	"strconv"
	"sync/atomic"
	"testing"

	"treadle/aid"
	"treadle/api"
	"treadle/gate"
	"treadle/token"
)

// (What plain memory is handed on the race detector sees besides.)

const hands, meetings = 8, 40000

// one: a token of a crowd.
type one struct {
	k       *token.Token
	above   *one
	depth   int
	asked   atomic.Int64 // how many children and functions somebody began to add
	refused atomic.Int64 // how many there was no room for
	open    atomic.Int64 // how many Cancels of its own have begun, and have not answered
	done    atomic.Int64 // how many of them answered true
	reason  atomic.Int64 // of that one
}

// below: whether it lies below that one.
func (x *one) below(top *one) bool {
	for y := x.above; y != nil; y = y.above {
		if y == top {
			return true
		}
	}
	return false
}

// lives: whether it lives, though no Cancel goes on which is to reach it: it was there when a Cancel of top began that has answered.
func (x *one) lives(top *one) bool {
	if x.k.Reason(nil) != 0 {
		return false
	}
	for y := x.above; y != top; y = y.above {
		if y.open.Load() > 0 {
			return false
		}
	}
	return x.k.Reason(nil) == 0 // what went on ahead of that look has answered by now
}

// deal: a function of a crowd. What is plain of it is its hand's, or that of whoever calls it.
type deal struct {
	of     *one
	laid   int // 1, laid ahead of its OnCancel
	ok     bool
	called int
	reason int64
}

// crowd: hands that make children, set functions, cancel, wait and look.
type crowd struct {
	all   []atomic.Pointer[one]
	last  atomic.Int64 // how many were begun to be made
	amiss atomic.Int64
	woken atomic.Int64 // how many Waits have answered
}

// party: how many hands of each kind there are, how many rounds the first two have; one call of so many is a Cancel.
type party struct{ makers, cancellers, waiters, lookers, rounds, often int }

// passes: such hands, at the tokens below one; in the end that is cancelled.
func passes(t *testing.T, what string, p party) *crowd {
	t.Helper()
	x := &crowd{all: make([]atomic.Pointer[one], p.makers*p.rounds+1)}
	root := &one{k: token.New()}
	x.puts(root)
	deals := make([][]*deal, p.makers)
	var working atomic.Int64
	working.Store(int64(p.makers + p.cancellers))
	defer inTime()()
	aid.Beside(p.makers+p.cancellers+p.waiters+p.lookers, func(h int) {
		r := rand.New(rand.NewSource(int64(h)))
		switch {
		case h < p.makers:
			deals[h] = x.makes(r, p, h)
		case h < p.makers+p.cancellers:
			for i := range p.rounds {
				if x.cancels(x.late(r), int64(h*p.rounds+i+1)); i%8 == 0 {
					runtime.Gosched()
				}
			}
		case h < p.makers+p.cancellers+p.waiters:
			for working.Load() > 0 {
				x.waits(x.some(r))
				runtime.Gosched()
			}
			return
		default:
			for working.Load() > 0 {
				x.looks(x.some(r))
			}
			return
		}
		if working.Add(-1) == 0 {
			x.cancels(root, 1<<30)
		}
	})
	x.holds(t, what, slices.Concat(deals...))
	return x
}

func (x *crowd) fault(is bool) {
	if is {
		x.amiss.Add(1)
	}
}

func (x *crowd) puts(o *one) { x.all[x.last.Add(1)-1].Store(o) }

// some: one of those that are there: most often one that lives; the first ones more often.
func (x *crowd) some(r *rand.Rand) *one {
	for tries := 0; ; tries++ {
		n := int(x.last.Load())
		if r.Intn(2) == 0 {
			n = min(n, 1+r.Intn(9))
		}
		if o := x.all[r.Intn(n)].Load(); o != nil && (tries > 3 || o.k.Reason(nil) == 0) {
			return o
		}
	}
}

// late: one of the last ones, below which there are few.
func (x *crowd) late(r *rand.Rand) *one {
	for {
		n := int(x.last.Load())
		if o := x.all[n-1-r.Intn((n+1)/2)].Load(); o != nil {
			return o
		}
	}
}

// makes: a hand's children and functions, now and then a Cancel: which functions it set.
func (x *crowd) makes(r *rand.Rand, p party, h int) (l []*deal) {
	for i := range p.rounds {
		switch o := x.some(r); {
		case r.Intn(p.often) == 0:
			x.cancels(x.late(r), int64(h*p.rounds+i+1))
		case r.Intn(3) > 0:
			x.bears(o)
		default:
			l = append(l, x.sets(o))
		}
		if i%16 == 0 {
			runtime.Gosched()
		}
	}
	return l
}

func (x *crowd) bears(o *one) {
	o.asked.Add(1)
	was := o.k.Reason(nil)
	open := o.open.Load()
	k, e := o.k.Child(nil)
	switch {
	case e == api.OK && k != nil:
		is := k.Reason(nil)
		x.fault(was != 0 && open == 0 && o.done.Load() == 1 && o.open.Load() == 0 && is != was)
		x.puts(&one{k: k, above: o, depth: o.depth + 1})
	case e == api.ErrFull && k == nil:
		o.refused.Add(1)
	default:
		x.fault(e != api.ErrDeep || k != nil || o.depth < api.MaxDepth)
	}
}

func (x *crowd) sets(o *one) *deal {
	o.asked.Add(1)
	d := &deal{of: o, laid: 1}
	e := o.k.OnCancel(nil, func(_ *gate.Thread, reason int64) {
		d.called++
		d.reason = reason
		x.fault(d.laid != 1 || o.k.Reason(nil) != reason || o.k.Cancel(nil, 9))
		low, e := o.k.Child(nil)
		x.fault(e == api.OK && low.Reason(nil) != reason || e != api.OK && (e != api.ErrDeep || o.depth < api.MaxDepth))
	})
	d.ok = e == api.OK
	if e == api.ErrFull {
		o.refused.Add(1)
	}
	x.fault(e != api.OK && e != api.ErrFull)
	return d
}

func (x *crowd) cancels(o *one, reason int64) {
	var there []*one // that lie below
	for i := range x.last.Load() {
		if y := x.all[i].Load(); y != nil && y.below(o) {
			there = append(there, y)
		}
	}
	o.open.Add(1)
	ok := o.k.Cancel(nil, reason)
	if ok {
		o.done.Add(1)
		o.reason.Store(reason)
	}
	o.open.Add(-1)
	is := o.k.Reason(nil)
	x.fault(is == 0 || ok && is != reason)
	if ok {
		x.fault(slices.ContainsFunc(there, func(y *one) bool { return y.lives(o) }))
	}
}

func (x *crowd) waits(o *one) {
	told := o.k.Wait(nil)
	x.woken.Add(1)
	x.fault(told == 0 || told != o.k.Reason(nil))
}

func (x *crowd) looks(o *one) {
	was := o.k.Reason(nil)
	runtime.Gosched()
	is := o.k.Reason(nil)
	x.fault(was != 0 && is != was)
}

// holds: whether nothing went wrong, when all is cancelled: each token has its own Cancel's reason, or that of the one above; each function that was not refused was called once, with that.
func (x *crowd) holds(t *testing.T, what string, deals []*deal) {
	t.Helper()
	for i := range x.last.Load() {
		o := x.all[i].Load()
		is, done := o.k.Reason(nil), o.done.Load()
		if is == 0 || done > 1 || done == 1 && is != o.reason.Load() || done == 0 && (o.above == nil || is != o.above.k.Reason(nil)) {
			t.Errorf("what follows: %s: the token %d, at the depth %d, has the reason %d; %d Cancels are done, with %d", what, i, o.depth, is, done, o.reason.Load())
		}
		if o.refused.Load() > 0 && o.asked.Load() <= 64 {
			t.Errorf("P11.2, P11.3: %s: the token %d: %d of %d are refused", what, i, o.refused.Load(), o.asked.Load())
		}
		if o.k.Cancel(nil, 5) || o.k.Wait(nil) != is || o.k.Reason(nil) != is {
			t.Errorf("what follows: %s: the token %d is cancelled again", what, i)
		}
	}
	for i, d := range deals {
		if d.called > 1 || (d.called == 1) != d.ok || d.ok && d.reason != d.of.k.Reason(nil) {
			t.Errorf("what follows: %s: the function %d is called %d times, with %d; its OnCancel answers: %v", what, i, d.called, d.reason, d.ok)
		}
	}
	if n := x.amiss.Load(); n != 0 || t.Failed() {
		t.Fatalf("what follows: %s: %d times amiss", what, n)
	}
}

// TestCrowds: whoever makes children, sets functions, cancels, waits and looks.
func TestCrowds(t *testing.T) {
	met := map[string]int64{}
	for range 100 {
		for what, p := range map[string]party{
			"some of all":         {3, 1, 2, 1, 150, 40},
			"many make":           {8, 0, 1, 0, 150, 50},
			"many cancel":         {2, 5, 1, 0, 100, 10},
			"many wait":           {2, 1, 6, 1, 150, 50},
			"nobody else cancels": {6, 0, 2, 0, 200, 1 << 30},
			"often cancelled":     {4, 2, 0, 2, 100, 4},
		} {
			passes(t, what, p).counts(met)
		}
	}
	for _, what := range []string{"cancelled itself", "by one above", "room for no more", "woken"} {
		if met[what] < 1000 {
			t.Errorf("the hands are no good: %v", met)
		}
	}
}

// counts what was met.
func (x *crowd) counts(met map[string]int64) {
	for i := range x.last.Load() {
		o := x.all[i].Load()
		met[map[bool]string{true: "cancelled itself", false: "by one above"}[o.done.Load() > 0]]++
		met["room for no more"] += o.refused.Load()
		met["deepest"] = max(met["deepest"], int64(o.depth))
	}
	met["woken"] += x.woken.Load()
}

// TestStoppedByTheMachine: the same, where there are more hands than the machine lets go at one time, so that it stops them in the midst of their calls for a while.
func TestStoppedByTheMachine(t *testing.T) {
	defer runtime.GOMAXPROCS(runtime.GOMAXPROCS(4 * hands))
	for range 150 {
		passes(t, "who are stopped", party{12, 4, 4, 0, 60, 30})
	}
}

// met: tokens at which hands meet: each but the first is a child of the one ahead of it.
type met struct {
	chain []*token.Token
	deals []*deal // of functions that are set ahead, one of each token
}

// heard: what a hand was told at a meeting.
type heard struct {
	done   []bool // of its Cancels
	deals  []*deal
	made   []*token.Token
	reason int64 // of a Wait
	wrong  int
}

func (a *heard) sets(k *token.Token) {
	d := &deal{of: &one{k: k}, laid: 1}
	e := k.OnCancel(nil, d.function())
	d.ok = e == api.OK
	if a.deals = append(a.deals, d); e != api.OK && e != api.ErrFull {
		a.wrong++
	}
}

// function: that of a deal.
func (d *deal) function() func(t *gate.Thread, reason int64) {
	return func(_ *gate.Thread, reason int64) {
		d.called += d.laid
		d.reason = reason
	}
}

func (a *heard) bears(k *token.Token) *token.Token {
	x, e := k.Child(nil)
	if a.made = append(a.made, x); e != api.OK {
		a.wrong++
	}
	return x
}

// meet: hands meet at chains of so many tokens. holds says whether what all were told is as it is to be.
func meet(t *testing.T, tokens int, f func(m *met, hand, i int, a *heard), holds func(m *met, got []heard) bool) {
	t.Helper()
	meetOf(t, hands, tokens, f, holds)
}

// meetOf: so many hands meet.
func meetOf(t *testing.T, hands, tokens int, f func(m *met, hand, i int, a *heard), holds func(m *met, got []heard) bool) {
	t.Helper()
	all := make([]met, meetings)
	for i := range all {
		m := &all[i]
		m.chain = []*token.Token{token.New()}
		for range tokens - 1 {
			x, _ := m.chain[len(m.chain)-1].Child(nil)
			m.chain = append(m.chain, x)
		}
		for _, k := range m.chain {
			d := &deal{of: &one{k: k}, laid: 1}
			d.ok = k.OnCancel(nil, d.function()) == api.OK
			m.deals = append(m.deals, d)
		}
	}
	defer inTime()()
	got := make([][]heard, meetings)
	for i := range got {
		got[i] = make([]heard, hands)
	}
	aid.Together(hands, meetings, func(h, i int) { f(&all[i], h, i, &got[i][h]) })
	for i := range all {
		m := &all[i]
		deals, wrong := m.deals, 0
		for _, a := range got[i] {
			deals = append(deals, a.deals...)
			wrong += a.wrong
		}
		for _, d := range deals {
			is := d.of.k.Reason(nil)
			if want := map[bool]int{true: 1}[d.ok && is != 0]; d.called != want || d.called == 1 && d.reason != is {
				t.Fatalf("what follows: at the meeting %d: a function is called %d times, with %d, where the reason is %d", i, d.called, d.reason, is)
			}
		}
		if wrong > 0 || !holds(m, got[i]) {
			t.Fatalf("what follows: at the meeting %d: %+v; %s", i, got[i], m.reasons())
		}
	}
}

// reasons: of the chain.
func (m *met) reasons() string {
	s := ""
	for _, k := range m.chain {
		s += strconv.FormatInt(k.Reason(nil), 10) + " "
	}
	return s
}

// allMade: whether all tokens that the hands made have this reason.
func allMade(got []heard, reason int64) bool {
	for _, a := range got {
		for _, k := range a.made {
			if k.Reason(nil) != reason {
				return false
			}
		}
	}
	return true
}

// who: the hand that was told that its Cancel is done; -1: none, or not just one.
func who(got []heard) int {
	n := -1
	for h, a := range got {
		for _, done := range a.done {
			if done && n >= 0 {
				return -1
			}
			if done {
				n = h
			}
		}
	}
	return n
}

// TestOneCancels: of those who cancel one token together one is told that he does; the reason is his.
func TestOneCancels(t *testing.T) {
	for _, n := range []int{2, 2, 2, 3, hands} { // few may go at one time where the machine has few processors
		meetOf(t, n, 2, func(m *met, h, _ int, a *heard) {
			a.done = []bool{m.chain[0].Cancel(nil, int64(h+1))}
			if m.chain[0].Reason(nil) == 0 {
				a.wrong++
			}
		}, func(m *met, got []heard) bool {
			h := who(got)
			return h >= 0 && m.chain[0].Reason(nil) == int64(h+1) && m.chain[1].Reason(nil) == int64(h+1)
		})
	}
}

// TestSetsMeetACancel: functions are set while one cancels; each is called once, by the end of both calls.
func TestSetsMeetACancel(t *testing.T) {
	meet(t, 1, func(m *met, h, i int, a *heard) {
		if h == i%hands {
			a.done = []bool{m.chain[0].Cancel(nil, 3)}
			return
		}
		a.sets(m.chain[0])
		a.sets(m.chain[0])
	}, func(m *met, got []heard) bool { return who(got) >= 0 })
}

// TestChildrenMeetACancel: children, and children of those, are made while one cancels: all have the reason.
func TestChildrenMeetACancel(t *testing.T) {
	meet(t, 1, func(m *met, h, i int, a *heard) {
		if h == i%hands {
			a.done = []bool{m.chain[0].Cancel(nil, 3)}
			return
		}
		x := a.bears(m.chain[0])
		a.sets(x)
		a.sets(a.bears(x))
		a.bears(m.chain[0])
	}, func(m *met, got []heard) bool { return who(got) >= 0 && allMade(got, 3) })
}

// TestNoChildIsMissed: when a Cancel has answered, each descendant that was there has the reason, whoever makes others meanwhile; what is made behind it is born with it.
func TestNoChildIsMissed(t *testing.T) {
	meet(t, 4, func(m *met, h, i int, a *heard) {
		if h != i%hands {
			a.bears(m.chain[h%4])
			return
		}
		a.done = []bool{m.chain[0].Cancel(nil, 3)}
		for _, k := range m.chain {
			if k.Reason(nil) != 3 || a.bears(k).Reason(nil) != 3 {
				a.wrong++
			}
		}
	}, func(m *met, got []heard) bool { return who(got) >= 0 && allMade(got, 3) })
}

// TestCancelsMeet: those who cancel at several depths: each token has the reason of its own Cancel, or that of the one above.
func TestCancelsMeet(t *testing.T) {
	own, inherited := 0, 0
	meet(t, 4, func(m *met, h, i int, a *heard) {
		for k := range 2 {
			a.done = append(a.done, m.chain[(h+i+k)%4].Cancel(nil, int64(10*h+k+1)))
		}
	}, func(m *met, got []heard) bool {
		reasons := map[int64]bool{}
		for h, a := range got {
			for k, done := range a.done {
				reasons[int64(10*h+k+1)] = done
			}
		}
		for n, k := range m.chain {
			is := k.Reason(nil)
			if n > 0 && is == m.chain[n-1].Reason(nil) {
				inherited++
			} else if own++; !reasons[is] {
				return false
			}
			delete(reasons, is)
		}
		for _, done := range reasons {
			if done {
				return false
			}
		}
		return true
	})
	if own < meetings+100 || inherited < 100 {
		t.Errorf("the calls are no good: %d have reasons of their own, %d those above", own, inherited)
	}
}

// TestWaitsMeetACancel: whoever waits, at whatever depth, is woken with the reason.
func TestWaitsMeetACancel(t *testing.T) {
	meet(t, 3, func(m *met, h, i int, a *heard) {
		if h == i%hands {
			if i%2 == 0 {
				runtime.Gosched()
			}
			a.done = []bool{m.chain[0].Cancel(nil, int64(i+1))}
		}
		if a.reason = m.chain[h%3].Wait(nil); a.reason != int64(i+1) {
			a.wrong++
		}
	}, func(m *met, got []heard) bool { return who(got) >= 0 })
}

// TestSomeAreSet: where there is room for some: nobody is refused while there is room, and just the others are called.
func TestSomeAreSet(t *testing.T) {
	for _, cancelled := range []bool{false, true} {
		meet(t, 1, func(m *met, h, i int, a *heard) {
			for range 8 + h/6 { // 66 in all, and one was set ahead of them
				a.sets(m.chain[0])
			}
			if cancelled && h == i%hands {
				a.done = []bool{m.chain[0].Cancel(nil, 3)}
			}
		}, func(m *met, got []heard) bool {
			ok := 0
			for _, a := range got {
				for _, d := range a.deals {
					if d.ok {
						ok++
					}
				}
			}
			return ok >= 63 && (cancelled || ok == 63)
		})
	}
}

// TestFreeInOrder: the functions of one hand are called in its order, if they are set ahead of a Cancel.
func TestFreeInOrder(t *testing.T) {
	for range 3000 {
		k := token.New()
		var called [hands][]int
		aid.Beside(hands, func(h int) {
			for i := range 8 {
				k.OnCancel(nil, func(*gate.Thread, int64) { called[h] = append(called[h], i) })
			}
		})
		if k.Cancel(nil, 1); slices.ContainsFunc(called[:], func(l []int) bool { return !slices.Equal(l, []int{0, 1, 2, 3, 4, 5, 6, 7}) }) {
			t.Fatalf("P11.4: they are called in this order: %v", called)
		}
	}
}

// TestAllMeet: some cancel, some make children and set functions below, some wait.
func TestAllMeet(t *testing.T) {
	meet(t, 3, func(m *met, h, i int, a *heard) {
		switch (h + i) % 4 {
		case 0:
			a.done = []bool{m.chain[1].Cancel(nil, int64(h+1)), m.chain[0].Cancel(nil, int64(h+1))}
		case 1:
			x := a.bears(m.chain[2])
			a.sets(x)
			a.reason = x.Wait(nil)
		case 2:
			a.sets(m.chain[0])
			a.sets(m.chain[2])
			m.chain[2].Cancel(nil, int64(h+1))
		default:
			a.reason = m.chain[1].Wait(nil)
			x := a.bears(m.chain[1]) // perhaps ahead of the closing
			if a.sets(x); x.Wait(nil) != a.reason {
				a.wrong++
			}
		}
	}, func(m *met, got []heard) bool {
		for _, a := range got {
			for _, k := range a.made {
				if k.Reason(nil) == 0 {
					return false
				}
			}
		}
		return true
	})
}
