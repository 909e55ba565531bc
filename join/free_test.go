package join_test

import (
	"math/rand"
	"runtime"
	"slices"
	"strconv"
	"sync/atomic"
	"testing"
	"testing/synctest"

	"treadle/aid"
	"treadle/api"
	"treadle/fault"
	"treadle/future"
	"treadle/gate"
	"treadle/join"
)

// (What plain memory is handed on the race detector sees besides.)

const hands, meetings = 8, 20000

// sleeper: one who asks for something in a goroutine of his own, and what he was told.
type sleeper struct {
	answered bool
	got      string
}

// begun: so many who ask; they have been answered, or sleep.
func begun(n int, asks func() string) (l []*sleeper) {
	for range n {
		s := &sleeper{}
		l = append(l, s)
		go func() {
			s.got = asks()
			s.answered = true
		}()
	}
	synctest.Wait()
	return l
}

// TestWhoAwaitsSleeps until what the joint future hangs on has come, and no longer, by whatever thread that does not live. (In a bubble of synctest Wait answers when all others sleep: who goes round and looks does not; a bubble whose goroutines all sleep for good fails.)
func TestWhoAwaitsSleeps(t *testing.T) {
	defer inTime()()
	for _, th := range aid.FreeThreads() {
		for _, row := range []struct {
			is   []aid.Answer        // what three futures come to, one behind the other
			when map[string]int      // behind how many of them it is filled
			told map[string][]string // what those are told then who await it, and who ask for its values
		}{
			{[]aid.Answer{aid.Told(5, nil), aid.Told(6, nil), aid.Told(7, nil)}, map[string]int{"All": 3, "Any": 1, "Quorum": 2}, map[string][]string{"All": {"3", "[5,6,7]"}, "Any": {"5"}, "Quorum": {"2"}}},
			{[]aid.Answer{aid.Told(0, failed(5)), aid.Told(6, nil), aid.Told(7, nil)}, map[string]int{"All": 3, "Any": 2, "Quorum": 3}, map[string][]string{"All": {"0:_failed_5", "0:_failed_5"}, "Any": {"6"}, "Quorum": {"2"}}},
			{[]aid.Answer{aid.Told(5, nil), aid.Told(0, failed(6)), aid.Told(0, failed(7))}, map[string]int{"All": 3, "Any": 1, "Quorum": 3}, map[string][]string{"All": {"1:_failed_6", "1:_failed_6"}, "Any": {"5"}, "Quorum": {"failed_2"}}},
			{[]aid.Answer{aid.Told(0, failed(5)), aid.Told(0, failed(6)), aid.Told(0, failed(7))}, map[string]int{"All": 3, "Any": 3, "Quorum": 2}, map[string][]string{"All": {"0:_failed_5", "0:_failed_5"}, "Any": {"0:_failed_5"}, "Quorum": {"failed_2"}}},
		} {
			for what, when := range row.when {
				synctest.Test(t, func(t *testing.T) { sleeps(t, th, what, row.is, when, row.told[what]) })
			}
		}
	}
}

// sleeps: those who await what is made of three futures, and ask for its values, if it has some, as one behind the other comes to these.
func sleeps(t *testing.T, th *gate.Thread, what string, is []aid.Answer, when int, told []string) {
	t.Helper()
	l, goes := three(), make(chan int)
	var j *join.Joint
	var g *future.Future
	switch what {
	case "All":
		j, _ = join.All(th, l...)
		g = j.Future()
	case "Any":
		g, _ = join.Any(th, l...)
	default:
		g, _ = join.Quorum(th, 2, l...)
	}
	g.Then(th, func(*gate.Thread, int64, error) { <-goes }) // whoever fills it goes on in its functions: nobody waits for that
	asks := []func() string{func() string { return aid.Told(g.Await(th)).String() }, func() string {
		v, e := j.Values(th)
		if e != nil {
			return aid.Told(0, e).String()
		}
		return listed(v)
	}}
	all := make([][]*sleeper, len(told))
	for n := range 4 {
		for i, want := range told {
			all[i] = append(all[i], begun(2, asks[i])...)
			for _, s := range all[i] {
				if s.answered != (n >= when) || s.answered && s.got != want {
					t.Errorf("what follows: %s of %v: behind %d of them %v: %s, not %s", what, is, n, s.answered, s.got, want)
				}
			}
		}
		if n < 3 {
			go l[n].Complete(th, is[n].V, is[n].E)
			synctest.Wait()
		}
	}
	close(goes)
	synctest.Wait()
}

// tight: what so many futures make, which so many hands complete at one time, with errors or with values, and do nothing else: it comes to that.
func tight(t *testing.T, what string, n, meetings int, fails bool, want string, joins func(l futures) *future.Future) {
	t.Helper()
	type part struct {
		l futures
		g *future.Future
	}
	all, errs := make([]part, meetings), make([]error, n)
	for h := range errs {
		if fails {
			errs[h] = failed(int64(h))
		}
	}
	for i := range all {
		for range n {
			all[i].l = append(all[i].l, future.New())
		}
		all[i].g = joins(all[i].l)
	}
	aid.Together(n, meetings, func(h, i int) { all[i].l[h].Complete(nil, 5, errs[h]) })
	for i, x := range all {
		if v, e, done := x.g.Peek(nil); !done || aid.Told(v, e).String() != want {
			t.Fatalf("what follows: %s of %d: at the meeting %d: %v %v, not %s", what, n, i, done, aid.Told(v, e), want)
		}
	}
}

// TestTightly: the counts of each kind, where nothing but completing lies between two meetings.
func TestTightly(t *testing.T) {
	for _, n := range []int{2, 2, 3} {
		s := strconv.Itoa(n)
		quorum := func(k int) func(l futures) *future.Future {
			return func(l futures) *future.Future { g, _ := join.Quorum(nil, k, l...); return g }
		}
		joinAll := func(l futures) *future.Future { j, _ := join.All(nil, l...); return j.Future() }
		joinAny := func(l futures) *future.Future { g, _ := join.Any(nil, l...); return g }
		tight(t, "All", n, 2*meetings, false, s, joinAll)
		tight(t, "All", n, 2*meetings, true, "0:_failed_0", joinAll)
		tight(t, "Any", n, 2*meetings, false, "5", joinAny)
		tight(t, "Any", n, 3*meetings, true, "0:_failed_0", joinAny)
		tight(t, "all", n, 3*meetings, false, s, quorum(n))
		tight(t, "too many", n, 3*meetings, true, "failed_"+s, quorum(1))
		tight(t, "one", n, 2*meetings, false, "1", quorum(1))
	}
}

// point: futures at which hands meet, each of which one hand completes, and what comes of it.
type point struct {
	i     int // the number of the meeting
	base  futures
	laid  []int // what is laid ahead of completing each
	ahead heard // what was made ahead of the hands
	got   []heard
}

// craft: a future that is made of some of them.
type craft struct {
	hung   int // how it hangs on them: all, some or quorum
	k      int
	of     []int
	j      *join.Joint
	g      *future.Future
	full   bool // it was refused
	called int  // how often its function was
}

// heard: what a hand made, and what is wrong with what it was told.
type heard struct {
	made   []*craft
	faults []string
}

func (a *heard) fault(is bool, what string) {
	if is {
		a.faults = append(a.faults, what)
	}
}

func newPoint(i, hands, futures int) *point {
	m := &point{i: i, laid: make([]int, futures), got: make([]heard, hands)}
	for range futures {
		m.base = append(m.base, future.New())
	}
	return m
}

// numbers: from 0 on, so many.
func numbers(n int) []int {
	l := make([]int, n)
	for i := range l {
		l[i] = i
	}
	return l
}

// is: what the future with this number is to come to.
func (m *point) is(b int) aid.Answer {
	if (m.i*7+b*3)%5 < m.i%4 {
		return aid.Told(0, &fault.Failed{Code: int64(100*m.i + b)})
	}
	return aid.Told(int64(100*m.i+b), nil)
}

// completes: the hand whose it is completes the future with this number.
func (m *point) completes(a *heard, b int) {
	m.laid[b] = m.i + 1
	is := m.is(b)
	a.fault(!m.base[b].Complete(nil, is.V, is.E), "it is completed already")
}

// makes: one more future that hangs on these.
func (m *point) makes(a *heard, hung, k int, of ...int) *craft {
	c := &craft{hung: hung, k: k, of: of}
	var l futures
	for _, b := range of {
		l = append(l, m.base[b])
	}
	var e api.Errno
	switch hung {
	case allOf:
		c.j, e = join.All(nil, l...)
		c.g = c.j.Future()
	case anyOf:
		c.g, e = join.Any(nil, l...)
	default:
		c.g, e = join.Quorum(nil, k, l...)
	}
	a.made = append(a.made, c)
	if c.full = e == api.ErrFull; e != api.OK || c.g == nil {
		a.fault(!c.full || c.g != nil, "neither a future nor an error, or both")
		return c
	}
	e = c.g.Then(nil, func(u *gate.Thread, v int64, err error) {
		c.called++
		f := heard{}
		m.fits(&f, c, aid.Told(v, err))
		if u != nil || f.faults != nil {
			c.called += 100
		}
	})
	a.fault(e != api.OK, "it has no room")
	return c
}

// parts: how many of what it hangs on come to errors, and the place of the first one that does; -1, if none does.
func (m *point) parts(c *craft) (errs, first int) {
	first = -1
	for i, b := range c.of {
		if m.is(b).E != nil {
			if errs++; first < 0 {
				first = i
			}
		}
	}
	return errs, first
}

// fits: whether somebody may be told that of it. He finds what was laid ahead of what it hangs on.
func (m *point) fits(a *heard, c *craft, told aid.Answer) {
	errs, first := m.parts(c)
	n := len(c.of)
	want, whole := aid.Told(int64(n), nil), true
	switch {
	case c.hung == quorumOf && errs > n-c.k:
		want, whole = aid.Told(0, &fault.Failed{Code: int64(n - c.k + 1)}), c.k == 1
	case c.hung == quorumOf:
		want, whole = aid.Told(int64(c.k), nil), c.k == n
	case c.hung == anyOf && errs < n:
		b := int(told.V - int64(100*m.i))
		if told.E != nil || !slices.Contains(c.of, b) || m.is(b) != told {
			a.fault(true, "it comes to no value of what it hangs on: "+told.String())
		} else {
			a.fault(m.laid[b] != m.i+1, "somebody is told ahead of the first value")
		}
		return
	case first >= 0:
		want = aid.Told(0, &fault.At{Number: first, Err: m.is(c.of[first]).E})
	}
	a.fault(!same(told, want), "it comes to "+told.String()+", not "+want.String())
	for _, b := range c.of {
		a.fault(whole && m.laid[b] != m.i+1, "somebody is told ahead of the last one")
	}
}

// awaits: a hand awaits it, and asks for its values.
func (m *point) awaits(a *heard, c *craft) {
	if c.full {
		return
	}
	m.fits(a, c, aid.Told(c.g.Await(nil)))
	if c.j != nil {
		m.asks(a, c)
	}
}

func (m *point) asks(a *heard, c *craft) {
	l, e := c.j.Values(nil)
	errs, _ := m.parts(c)
	a.fault((e != nil) != (errs > 0) || e != nil && l != nil || e == nil && len(l) != len(c.of), "its values are there, or not")
	for i, v := range l {
		a.fault(m.is(c.of[i]) != aid.Told(v, nil), "a value is another one's")
	}
}

func (m *point) peeks(a *heard, c *craft) (done bool) {
	if c.full {
		return true
	}
	v, e, done := c.g.Peek(nil)
	if done {
		m.fits(a, c, aid.Told(v, e))
	}
	return done
}

// faults: what is wrong with what the hands were told. When all have ended each that was made is filled, and its function has been called once.
func (m *point) faults() []string {
	x := m.ahead
	for _, a := range append(m.got, m.ahead) {
		x.faults = append(x.faults, a.faults...)
		for _, c := range a.made {
			if !m.peeks(&x, c) {
				x.fault(true, "one is left open")
				continue
			}
			x.fault(c.called != aid.Digit(!c.full), "its function is called not just once, or told something else")
			x.fault(!c.full && c.g.Complete(nil, 1, nil), "nobody has completed it")
			m.awaits(&x, c)
		}
	}
	return x.faults
}

// meet: so many hands meet, each time at others of so many futures, and at what is made of them ahead.
func meet(t *testing.T, hands, meetings, futures int, first func(m *point, a *heard), f func(m *point, hand int, a *heard)) []*point {
	t.Helper()
	all := make([]*point, meetings)
	for i := range all {
		all[i] = newPoint(i, hands, futures)
		first(all[i], &all[i].ahead)
	}
	defer inTime()()
	aid.Together(hands, meetings, func(h, i int) { f(all[i], h, &all[i].got[h]) })
	for i, m := range all {
		if l := m.faults(); len(l) != 0 {
			t.Fatalf("what follows: at the meeting %d: %q", i, l)
		}
	}
	return all
}

// eachKind: all kinds, of all futures.
func eachKind(m *point, a *heard) {
	n := len(m.base)
	m.makes(a, allOf, 0, numbers(n)...)
	m.makes(a, anyOf, 0, numbers(n)...)
	for k := range n {
		m.makes(a, quorumOf, k+1, numbers(n)...)
	}
}

// TestOneKindMeets: hands that do nothing but complete, at joint futures of one kind alone: the last that is completed fills the joint, whoever it is; so does the first value, or the k-th.
func TestOneKindMeets(t *testing.T) {
	for _, n := range []int{2, 2, 3, hands} {
		for _, hung := range []int{allOf, anyOf, quorumOf} {
			meet(t, n, meetings, n, func(m *point, a *heard) { m.makes(a, hung, m.i%n+1, numbers(n)...) }, func(m *point, h int, a *heard) { m.completes(a, h) })
		}
	}
}

// TestCompletesMeet: hands that complete, and then await what is filled by others.
func TestCompletesMeet(t *testing.T) {
	for _, n := range []int{2, 2, 3, hands} { // few may go at one time where the machine has few processors
		meet(t, n, meetings, n, eachKind, func(m *point, h int, a *heard) {
			m.completes(a, (h+m.i)%n)
			m.awaits(a, m.ahead.made[(h+m.i/n)%len(m.ahead.made)])
		})
	}
}

// TestJoinsMeetCompletes: joint futures are made while what they hang on is completed: each is filled, by whoever comes last, and its function called once.
func TestJoinsMeetCompletes(t *testing.T) {
	for _, n := range []int{2, 2, 3, hands} {
		meet(t, n, meetings, 2, func(*point, *heard) {}, func(m *point, h int, a *heard) {
			if (h+m.i)%n < 2 {
				m.completes(a, (h+m.i)%n)
			}
			c := m.makes(a, (h+m.i/n)%3, 1+m.i%2, []int{0, 1, 1}[m.i%2:]...)
			m.peeks(a, c)
			if m.i%3 == 0 {
				m.awaits(a, c)
			}
		})
	}
}

// TestPeeksMeetCompletes: whoever peeks while it is filled is told all of it, or nothing.
func TestPeeksMeetCompletes(t *testing.T) {
	for _, n := range []int{2, 3, hands} {
		meet(t, n, meetings, n-1, eachKind, func(m *point, h int, a *heard) {
			if h = (h + m.i) % n; h < n-1 {
				m.completes(a, h)
				return
			}
			for looks := 0; looks < 100 && !m.peeks(a, m.ahead.made[m.i%len(m.ahead.made)]); looks++ {
			}
		})
	}
}

// TestLastPlacesMeet: more joint futures come together than there is room for, while one completes; who is refused has none, all others are filled.
func TestLastPlacesMeet(t *testing.T) {
	for _, n := range []int{2, 3, hands} {
		refused := 0
		for _, m := range meet(t, n, meetings/4, 2, func(*point, *heard) {}, func(m *point, h int, a *heard) {
			for i := range 48/n + 2 {
				m.makes(a, (h+i)%3, 1+i%2, 0, 1, i%2)
			}
			if h == m.i%n {
				m.completes(a, 0)
				m.completes(a, 1)
			}
		}) {
			for _, a := range m.got {
				for _, c := range a.made {
					refused += aid.Digit(c.full)
				}
			}
		}
		if refused < 100 {
			t.Errorf("the hands are no good: of %d %d are refused", n, refused)
		}
	}
}

// allMeet: some complete, all make joint futures and await them, and those that were there.
func allMeet(m *point, h int, a *heard) {
	c := m.makes(a, (h+m.i)%3, 1+h%2, h%4, (h+1)%4, (m.i+h)%4)
	if b := (h + m.i) % len(m.got); b < 4 {
		m.completes(a, b)
	}
	for i, x := range m.ahead.made {
		if (i+h)%3 == 0 {
			m.peeks(a, x)
		}
	}
	d := m.makes(a, (h+m.i/3)%3, 2, (h+2)%4, (m.i+h)%4, (h+2)%4)
	m.awaits(a, c)
	m.awaits(a, d)
	m.awaits(a, m.ahead.made[(m.i+h)%len(m.ahead.made)])
}

func TestAllMeet(t *testing.T) { meet(t, hands, meetings, 4, eachKind, allMeet) }

// TestStoppedByTheMachine: the same, where there are more hands than the machine lets go at one time, so that it stops them in the midst of their calls for a while.
func TestStoppedByTheMachine(t *testing.T) {
	defer runtime.GOMAXPROCS(runtime.GOMAXPROCS(4 * hands))
	meet(t, 2*hands, meetings/2, 4, eachKind, allMeet)
}

// asksMeet: so many hands complete what a joint hangs on, each one of them, and ask for its values: all are there.
func asksMeet(t *testing.T, n, meetings int) {
	t.Helper()
	type part struct {
		l     futures
		j     *join.Joint
		wrong []int64
	}
	all, want := make([]*part, meetings), numbers(n)
	for i := range all {
		x := &part{wrong: make([]int64, n)}
		for range n {
			x.l = append(x.l, future.New())
		}
		x.j, _ = join.All(nil, x.l...)
		all[i] = x
	}
	defer inTime()()
	aid.Together(n, meetings, func(h, i int) {
		x := all[i]
		x.l[h].Complete(nil, int64(h+5), nil)
		v, e := x.j.Values(nil)
		for k := range want {
			if e != nil || v[k] != int64(k+5) {
				x.wrong[h]++
			}
		}
	})
	for i, x := range all {
		if slices.Max(x.wrong) != 0 {
			t.Fatalf("P16.2: at the meeting %d of %d: they are told values that are wrong: %v", i, n, x.wrong)
		}
	}
}

// TestAsksMeetCompletes: whoever asks for the values as the last one comes is told all of them; also where the machine stops hands in the midst of their calls.
func TestAsksMeetCompletes(t *testing.T) {
	for _, n := range []int{2, 2, 3, hands} {
		asksMeet(t, n, 3*meetings)
	}
	defer runtime.GOMAXPROCS(runtime.GOMAXPROCS(4 * hands))
	asksMeet(t, 2*hands, meetings)
}

// TestOutsideMeets: somebody completes a joint's future from outside, while others complete what it hangs on, and ask for its values: they are told what is there.
func TestOutsideMeets(t *testing.T) {
	type outside struct {
		l   futures
		j   *join.Joint
		did atomic.Int64
	}
	for _, n := range []int{3, 4, hands} {
		all := make([]*outside, meetings)
		for i := range all {
			x := &outside{l: futures{future.New(), future.New()}}
			x.j, _ = join.All(nil, x.l...)
			all[i] = x
		}
		defer inTime()()
		aid.Together(n, meetings, func(h, i int) {
			x := all[i]
			switch h = (h + i) % n; h {
			case 0, 1:
				x.l[h].Complete(nil, int64(h+5), nil)
			case 2:
				x.did.Add(int64(aid.Digit(x.j.Future().Complete(nil, 9, nil))))
			}
			var was []int64
			for range 3 {
				v, e := x.j.Values(nil)
				if e != nil || len(v) != 2 || v[0] != 0 && v[0] != 5 || v[1] != 0 && v[1] != 6 || was != nil && (v[0] < was[0] || v[1] < was[1]) {
					t.Errorf("P16.2: at the meeting %d: %v %v", i, v, e)
				}
				was = v
			}
		})
		for i, x := range all {
			v, e := x.j.Values(nil)
			if w, _ := x.j.Future().Await(nil); !slices.Equal(v, []int64{5, 6}) || e != nil || w != 2+7*x.did.Load() {
				t.Fatalf("P16.2: at the meeting %d: %v %v; %d", i, v, e, w)
			}
		}
	}
}

// net: futures, of which the first ones hang on none, and each other one on some ahead of it.
type net struct {
	nodes []*node
	base  int
}

// node: one of them.
type node struct {
	hung   *hung
	on     []int
	x      *future.Future
	there  chan struct{} // it is closed when x is there
	called atomic.Int64
}

func newNet(r *rand.Rand, base, most int) *net {
	w := &net{nodes: make([]*node, most), base: base}
	for i := range w.nodes {
		w.nodes[i] = &node{there: make(chan struct{})}
		n := w.nodes[i]
		if i < base {
			n.x = future.New()
			close(n.there)
			continue
		}
		for range 1 + r.Intn(4) {
			n.on = append(n.on, max(0, i-1-r.Intn(20)))
		}
		n.hung = &hung{op: r.Intn(3), k: 1 + r.Intn(len(n.on))}
	}
	return w
}

// completes one that hangs on none.
func (w *net) completes(i int) bool {
	if i%3 == 0 {
		return w.nodes[i].x.Complete(nil, 0, failed(int64(i)))
	}
	return w.nodes[i].x.Complete(nil, int64(i), nil)
}

// makes one that hangs on others, when those are there: whether it is made.
func (w *net) makes(i int) bool {
	var l futures
	n := w.nodes[i]
	for _, k := range n.on {
		<-w.nodes[k].there
		l = append(l, w.nodes[k].x)
	}
	e := api.OK
	switch n.hung.op {
	case allOf:
		var j *join.Joint
		j, e = join.All(nil, l...)
		n.x = j.Future()
	case anyOf:
		n.x, e = join.Any(nil, l...)
	default:
		n.x, e = join.Quorum(nil, n.hung.k, l...)
	}
	close(n.there)
	return e == api.OK && n.x.Then(nil, func(*gate.Thread, int64, error) { n.called.Add(1) }) == api.OK
}

// holds: whether a node came to what those come to that it hangs on, and its function was called once.
func (w *net) holds(n *node) bool {
	for _, k := range n.on {
		n.hung.on = append(n.hung.on, &fact{x: w.nodes[k].x})
	}
	v, e, done := n.x.Peek(nil)
	return done && n.called.Load() == 1 && slices.ContainsFunc(n.hung.comesTo(), func(a aid.Answer) bool { return same(a, aid.Told(v, e)) })
}

// does: what a hand does of it: it makes its nodes, completes its others meanwhile, and awaits all.
func (w *net) does(r *rand.Rand, hand int) (is bool) {
	is = true
	todo := hand
	for i := w.base + hand; i < len(w.nodes); i += hands {
		if todo < w.base && r.Intn(4) == 0 {
			is = w.completes(todo) && is
			todo += hands
		}
		is = w.makes(i) && is
	}
	for ; todo < w.base; todo += hands {
		is = w.completes(todo) && is
	}
	for i := w.base + hand; i < len(w.nodes); i += hands {
		w.nodes[i].x.Await(nil)
	}
	return is
}

// TestNets: joint futures of joint futures, made by hands while others complete those on which all hang: each comes to what those come to that it hangs on.
func TestNets(t *testing.T) {
	defer inTime()()
	met := map[int]int{}
	for seed := range int64(2000) {
		w := newNet(rand.New(rand.NewSource(seed)), 12, 72)
		aid.Beside(hands, func(h int) {
			if !w.does(rand.New(rand.NewSource(seed*hands+int64(h))), h) {
				t.Errorf("R1: seed %d: something is refused", seed)
			}
		})
		for i, n := range w.nodes[w.base:] {
			v, e := n.x.Await(nil)
			if !w.holds(n) {
				t.Fatalf("what follows: seed %d: the node %d, of %v: %v", seed, i+w.base, n.on, aid.Told(v, e))
			}
			met[2*n.hung.op+aid.Digit(e == nil)]++
		}
	}
	for i := range 6 {
		if met[i] < 1000 {
			t.Errorf("the nets are no good: %v", met)
		}
	}
}
