package pipe_test

import (
	"math/rand"
	"runtime"
	"slices"
	"sync/atomic"
	"testing"
	"testing/synctest"

	"treadle/aid"
	"treadle/api"
	"treadle/cell"
	"treadle/gate"
	"treadle/pipe"
)

// (What plain memory is handed on the race detector sees besides.)

const hands, meetings = 8, 40000

// asleep: a call in a goroutine of its own, and what it was answered.
type asleep struct {
	answered bool
	told     answer
}

// begun: goroutines that make each one of these calls; they have been answered, or sleep.
func begun(p *pipe.Pipe, th *gate.Thread, calls ...call) (l []*asleep) {
	for _, c := range calls {
		s := &asleep{}
		l = append(l, s)
		go func() {
			s.told = asked(p, th, c)
			s.answered = true
		}()
	}
	synctest.Wait()
	return l
}

// answers: of those that were answered.
func answers(l []*asleep) (told []answer) {
	synctest.Wait()
	for _, s := range l {
		if s.answered {
			told = append(told, s.told)
		}
	}
	return told
}

// bubbles calls f by each thread that does not live, in a bubble of synctest: there Wait answers when all others sleep (who goes round and looks does not), and a bubble whose goroutines all sleep for good fails.
func bubbles(t *testing.T, f func(t *testing.T, th *gate.Thread)) {
	t.Helper()
	defer inTime()()
	for _, th := range aid.FreeThreads() {
		synctest.Test(t, func(t *testing.T) { f(t, th) })
	}
}

// TestWhoReceivesSleeps until something is there: each value wakes one, whoever it is; and a Close all who are left.
func TestWhoReceivesSleeps(t *testing.T) {
	bubbles(t, func(t *testing.T, th *gate.Thread) {
		p := newPipe(2, nil)
		l := begun(p, th, slices.Repeat([]call{recvs}, 5)...)
		var want []answer
		for v := range int64(3) {
			if told := answers(l); len(told) != int(v) {
				t.Errorf("what follows: %d were sent, and received %v", v, told)
			}
			want = append(want, got(10+v))
			asked(p, th, []call{tries(10 + v), sends(10 + v)}[v%2])
		}
		told := answers(l)
		slices.SortFunc(told, func(a, b answer) int { return int(a.v - b.v) })
		if !slices.Equal(told, want) || asked(p, th, asks) != notYet {
			t.Errorf("what follows: %v, not %v", told, want)
		}
		if a := asked(p, th, closes); a != okay {
			t.Errorf("P20.5: %v", a)
		}
		ended := 0
		for _, a := range append(answers(l), answers(begun(p, th, recvs, recvs))...) {
			ended += aid.Digit(a == shutNow)
		}
		if ended != 4 {
			t.Errorf("what follows: behind the Close %v", answers(l))
		}
	})
}

// TestWhoSendsSleeps until there is room for it: each value that is received lets one in; and a Close wakes all who are left, who have sent nothing.
func TestWhoSendsSleeps(t *testing.T) {
	bubbles(t, func(t *testing.T, th *gate.Thread) {
		p := newPipe(2, nil)
		allOf(p, th, tries(1), tries(2))
		l := begun(p, th, sends(11), sends(12), sends(13), sends(14), sends(15))
		var received []int64
		for i := range 3 {
			if told := answers(l); len(told) != i {
				t.Errorf("what follows: behind %d that were received %v", i, told)
			}
			a := asked(p, th, []call{asks, recvs}[i%2])
			received = append(received, a.v)
		}
		synctest.Wait()
		if a := asked(p, th, closes); a != okay {
			t.Errorf("P20.5: %v", a)
		}
		var sent []int64
		for i, s := range l {
			if synctest.Wait(); !s.answered || s.told != okay && s.told != shutNow {
				t.Errorf("what follows: behind the Close the Send number %d is told %v", i, s.told)
			}
			if s.told == okay {
				sent = append(sent, int64(11+i))
			}
		}
		for {
			a := asked(p, th, recvs)
			if a == shutNow {
				break
			}
			received = append(received, a.v)
		}
		slices.Sort(received)
		if len(sent) != 3 || !slices.Equal(received, append([]int64{1, 2}, sent...)) {
			t.Errorf("what follows: %v are sent, and received %v", sent, received)
		}
	})
}

// TestBellsWake: who sleeps is woken by what is done to another pipe with its bell, too, and sleeps on; but not by what is done to one that has another.
func TestBellsWake(t *testing.T) {
	bubbles(t, func(t *testing.T, th *gate.Thread) {
		bell := cell.New(7)
		p, q := newPipe(2, bell), newPipe(2, bell)
		allOf(p, th, tries(1), tries(2))
		l := append(begun(p, th, sends(3)), begun(q, th, recvs)...)
		other := newPipe(2, nil)
		allOf(other, th, tries(1), recvs, closes)
		bell.Add(th, 1)
		bell.Store(th, 1000)
		if told := answers(l); len(told) != 0 {
			t.Errorf("what follows: %v", told)
		}
		if a := asked(p, th, recvs); a != got(1) || !slices.Equal(answers(l), []answer{okay}) {
			t.Errorf("what follows: %v, %v", a, answers(l))
		}
		if a := asked(q, th, sends(9)); a != okay || !slices.Equal(answers(l), []answer{okay, got(9)}) || bell.Load(th) != 1004 {
			t.Errorf("what follows: %v, %v; the bell %d", a, answers(l), bell.Load(th))
		}
	})
}

// TestNothingIsLost: each value that was sent is received once, by whomever; of one sender's values each receiver's rise. Behind that the pipe is as at first.
func TestNothingIsLost(t *testing.T) {
	defer inTime()()
	for _, n := range []int{2, 4, 64, api.MaxRing} {
		for _, who := range [][2]int{{1, 1}, {1, hands - 1}, {hands - 1, 1}, {hands / 2, hands / 2}, {1, 2}, {2, 1}} {
			x := newPipe(n, nil)
			p := aid.Passage{Putters: who[0], Takers: who[1], Each: 24000 / who[0],
				Put: func(v int64) bool { return x.TrySend(nil, v) == pipe.Did },
				Take: func() (int64, bool) {
					v, how := x.TryRecv(nil)
					return v, how == pipe.Did
				},
				Lane: func(int64) int { return 0 },
			}
			if wrong := p.Wrong(); wrong != 0 {
				t.Fatalf("what follows: of %d, %v: %d times wrong", n, who, wrong)
			}
			if rung := x.Bell().Load(nil); rung != int64(2*p.Putters*p.Each) {
				t.Errorf("P20.2, P20.3: of %d, %v: the bell %d", n, who, rung)
			}
			wholeBehind(t, x, n)
		}
	}
}

// wholeBehind: a pipe in which nothing is, and nobody in the midst of a call, is as by the words, and is closed then.
func wholeBehind(t *testing.T, x *pipe.Pipe, n int) {
	t.Helper()
	l := around(n)
	l = l[1 : len(l)-1] // not the bell
	s, want := plain{room: n}, []answer{}
	for _, c := range l {
		var a answer
		s, a = plainly(s, c)
		want = append(want, a)
	}
	if told := allOf(x, nil, l...); !slices.Equal(told, want) {
		t.Errorf("what follows: of %d: behind that it is not as at first", n)
	}
}

// stream: hands that send, and sleep where they have to, and hands that receive, till they are told that nothing comes any more.
type stream struct {
	x                  *pipe.Pipe
	senders, receivers int
	each               int
	early              bool // it is closed while some still send
	sent               [][]int64
	got                [][]int64
	closed             atomic.Int64 // how many have closed it
	wrong              atomic.Int64
	plain              [][]int // what a sender does ahead of each value
	last               int     // what who closes it does ahead of that
}

func (s *stream) fault(is bool) { s.wrong.Add(int64(aid.Digit(is))) }

func (s *stream) runs() {
	s.sent, s.got, s.plain = make([][]int64, s.senders), make([][]int64, s.receivers), make([][]int, s.senders)
	for h := range s.plain {
		s.plain[h] = make([]int, s.each)
	}
	var left atomic.Int64
	left.Store(int64(s.senders))
	aid.Beside(s.senders+s.receivers, func(h int) {
		if h >= s.senders {
			s.receives(h - s.senders)
			return
		}
		s.sends(h)
		if n := left.Add(-1); s.early && n == int64(s.senders)-1 || !s.early && n == 0 {
			s.last = 1
			for range 2 {
				s.closed.Add(int64(aid.Digit(s.x.Close(nil) == api.OK)))
			}
		}
	})
}

func (s *stream) sends(h int) {
	most := s.each
	if s.early {
		most -= h * s.each / 8 // they end at several times
	}
	for i := range most {
		s.plain[h][i] = 1
		v := int64(h)<<32 + int64(i+1)
		var how answer
		if i%7 == 3 {
			how = asked(s.x, nil, tries(v))
		}
		if how != okay {
			how = asked(s.x, nil, sends(v))
		}
		if how == shutNow {
			s.fault(!s.early || s.last != 1)
			return
		}
		s.fault(how != okay)
		s.sent[h] = append(s.sent[h], v)
	}
}

func (s *stream) receives(h int) {
	for i := 0; ; i++ {
		a := answer{how: not}
		if i%5 == 2 {
			a = asked(s.x, nil, asks)
		}
		if a.how == not {
			a = asked(s.x, nil, recvs)
		}
		if a == shutNow {
			s.fault(s.last != 1)
			return
		}
		by, k := int(a.v>>32), int(a.v&0xffffffff)-1
		if a.how != did || by < 0 || by >= s.senders || k < 0 || k >= s.each {
			s.fault(true)
			return
		}
		s.fault(s.plain[by][k] != 1)
		s.got[h] = append(s.got[h], a.v)
	}
}

// holds: what is found behind it.
func (s *stream) holds() string {
	sent, got := slices.Concat(s.sent...), slices.Concat(s.got...)
	slices.Sort(sent)
	slices.Sort(got)
	for _, l := range s.got {
		last := map[int64]int64{}
		for _, v := range l {
			if last[v>>32] >= v {
				return "of one who sends a value comes ahead of an earlier one"
			}
			last[v>>32] = v
		}
	}
	switch {
	case s.wrong.Load() != 0:
		return "something is told amiss"
	case s.closed.Load() != 1:
		return "not just one has closed it"
	case !slices.Equal(sent, got):
		return "what was sent is not what was received"
	case !s.early && len(sent) != s.senders*s.each:
		return "somebody has not sent"
	case asked(s.x, nil, asks) != shutNow || asked(s.x, nil, tries(1)) != shutNow || asked(s.x, nil, recvs) != shutNow:
		return "behind that it is not closed"
	}
	return ""
}

// TestStreams: all that was sent is received, once, in order; then all are told that it is closed: nobody sleeps on.
func TestStreams(t *testing.T) {
	defer inTime()()
	for i, n := range []int{2, 2, 4, 4, 64, 64, api.MaxRing, api.MaxRing} {
		for _, who := range [][2]int{{1, 1}, {1, hands - 1}, {hands - 1, 1}, {hands / 2, hands / 2}, {2, 1}, {1, 2}} {
			s := &stream{x: newPipe(n, nil), senders: who[0], receivers: who[1], each: 30000 / who[0], early: i%2 == 1}
			if s.runs(); s.holds() != "" {
				t.Fatalf("what follows: of %d, %v, early %v: %s: %d wrong", n, who, s.early, s.holds(), s.wrong.Load())
			}
		}
	}
}

// TestStreamsBesideOneAnother: with one bell.
func TestStreamsBesideOneAnother(t *testing.T) {
	defer inTime()()
	for round := range 40 {
		bell := cell.New(-5)
		l := make([]*stream, 3)
		for i := range l {
			l[i] = &stream{x: newPipe(2<<i, bell), senders: 1 + (round+i)%3, receivers: 1 + (round/3+i)%3, each: 300, early: (round+i)%4 == 0}
		}
		aid.Beside(len(l), func(h int) { l[h].runs() })
		rung := int64(-5 + len(l))
		for i, s := range l {
			if s.holds() != "" {
				t.Fatalf("what follows: %d: the stream %d, early %v: %s: %d wrong", round, i, s.early, s.holds(), s.wrong.Load())
			}
			rung += int64(2 * len(slices.Concat(s.got...)))
		}
		if bell.Load(nil) != rung {
			t.Errorf("P20.2 to P20.5: the bell %d, not %d", bell.Load(nil), rung)
		}
	}
}

// TestStoppedByTheMachine: streams whose hands are more than the machine lets go at one time, so that it stops them in the midst of their calls for a while.
func TestStoppedByTheMachine(t *testing.T) {
	defer inTime()()
	defer runtime.GOMAXPROCS(runtime.GOMAXPROCS(4 * hands))
	for i := range 8 {
		s := &stream{x: newPipe(2<<(i%3), nil), senders: 2 * hands, receivers: 2 * hands, each: 400, early: i%2 == 1}
		if s.runs(); s.holds() != "" {
			t.Fatalf("what follows: %d: %s: %d wrong", i, s.holds(), s.wrong.Load())
		}
	}
}

// meet: so many hands meet, each time at another pipe of two places, in which so many values are.
func meet(t *testing.T, n, has int, f func(p *pipe.Pipe, h, i int) answer, holds func(p *pipe.Pipe, i int, told []answer) bool) {
	t.Helper()
	defer inTime()()
	pipes := make([]*pipe.Pipe, meetings)
	for i := range pipes {
		pipes[i] = newPipe(2, nil)
		for k := range has {
			pipes[i].TrySend(nil, int64(-1-k))
		}
	}
	told := make([][meetings]answer, n)
	aid.Together(n, meetings, func(h, i int) { told[h][i] = f(pipes[i], h, i) })
	for i, p := range pipes {
		var l []answer
		for h := range told {
			l = append(l, told[h][i])
		}
		if !holds(p, i, l) {
			t.Fatalf("what follows: at the meeting %d of %d: %v; then %v", i, n, l, allOf(p, nil, asks, asks, asks))
		}
	}
}

// count: how many were answered so.
func count(l []answer, how string) (n int) {
	for _, a := range l {
		n += aid.Digit(a.how == how)
	}
	return n
}

// TestOneHasThePlace: of those who send together where one place is free just one does, and his value is there.
func TestOneHasThePlace(t *testing.T) {
	meet(t, hands, 1, func(p *pipe.Pipe, h, i int) answer { return asked(p, nil, tries(int64(h))) }, func(p *pipe.Pipe, i int, told []answer) bool {
		who := int64(slices.Index(told, okay))
		return count(told, did) == 1 && count(told, not) == hands-1 && slices.Equal(allOf(p, nil, asks, asks, asks), []answer{got(-1), got(who), notYet})
	})
}

// TestOneHasTheValue: of those who receive together where one value is there just one does.
func TestOneHasTheValue(t *testing.T) {
	meet(t, hands, 1, func(p *pipe.Pipe, h, i int) answer { return asked(p, nil, asks) }, func(p *pipe.Pipe, i int, told []answer) bool {
		return count(told, did) == 1 && slices.Contains(told, got(-1)) && count(told, not) == hands-1 && slices.Equal(allOf(p, nil, asks, tries(5), tries(6), tries(7), asks), []answer{notYet, okay, okay, notYet, got(5)})
	})
}

// TestBothAreHad: of those who send together into what is empty two do; of those who receive together from what is full two do, each another value.
func TestBothAreHad(t *testing.T) {
	meet(t, hands, 0, func(p *pipe.Pipe, h, i int) answer { return asked(p, nil, tries(int64(h))) }, func(p *pipe.Pipe, i int, told []answer) bool {
		l := allOf(p, nil, asks, asks, asks)
		return count(told, did) == 2 && count(l, did) == 2 && l[0] != l[1] && told[l[0].v] == okay && told[l[1].v] == okay
	})
	meet(t, hands, 2, func(p *pipe.Pipe, h, i int) answer { return asked(p, nil, asks) }, func(p *pipe.Pipe, i int, told []answer) bool {
		return count(told, did) == 2 && slices.Contains(told, got(-1)) && slices.Contains(told, got(-2)) && asked(p, nil, asks) == notYet
	})
}

// TestClosesMeet: of those who close together one does.
func TestClosesMeet(t *testing.T) {
	for _, n := range []int{2, 3, hands} {
		meet(t, n, 1, func(p *pipe.Pipe, h, i int) answer { return asked(p, nil, closes) }, func(p *pipe.Pipe, i int, told []answer) bool {
			return count(told, did) == 1 && count(told, closed) == n-1 && p.Bell().Load(nil) == 2 && slices.Equal(allOf(p, nil, asks, asks), []answer{got(-1), shutNow})
		})
	}
}

// TestSendsMeetAClose: each either sends, and that is received, or is told that it is closed.
func TestSendsMeetAClose(t *testing.T) {
	for _, n := range []int{2, 3, hands} {
		sent, refused := 0, 0
		meet(t, n, 0, func(p *pipe.Pipe, h, i int) answer {
			if h == i%n {
				return asked(p, nil, closes)
			}
			return asked(p, nil, tries(int64(h)))
		}, func(p *pipe.Pipe, i int, told []answer) bool {
			var there []answer
			for a := asked(p, nil, asks); a.how == did; a = asked(p, nil, asks) {
				there = append(there, a)
				if told[a.v] != okay || len(there) > 2 {
					return false
				}
			}
			sent, refused = sent+len(there), refused+count(told, closed)
			return told[i%n] == okay && count(told, did) == 1+len(there) && (len(there) == 2 || count(told, not) == 0) && asked(p, nil, asks) == shutNow && p.Bell().Load(nil) == int64(1+2*len(there))
		})
		if sent < 100 || refused < 100 {
			t.Errorf("the hands are no good: of %d %d are sent, %d refused", n, sent, refused)
		}
	}
}

// ending: a pipe that one closes, while some send, as long as there is room, and some receive, till they are told that nothing comes any more.
type ending struct {
	p              *pipe.Pipe
	sent, received []int // of each hand
}

func (x *ending) does(h, role int) {
	switch {
	case role == 0:
		x.p.Close(nil)
	case role%2 == 1:
		for x.p.TrySend(nil, 1) == pipe.Did {
			x.sent[h]++
		}
	default:
		for asked(x.p, nil, recvs).how == did {
			x.received[h]++
		}
	}
}

// endsMeet: so many hands meet at such pipes: all that is sent has been received when who receives is told that it is closed.
func endsMeet(t *testing.T, n, meetings int) {
	t.Helper()
	defer inTime()()
	l := make([]*ending, meetings)
	for i := range l {
		l[i] = &ending{newPipe(2<<(i%2), nil), make([]int, n), make([]int, n)}
	}
	aid.Together(n, meetings, func(h, i int) { l[i].does(h, (h+i)%n) })
	busy := 0
	for i, x := range l {
		sent, received := 0, 0
		for h := range n {
			sent, received = sent+x.sent[h], received+x.received[h]
		}
		if a := asked(x.p, nil, asks); sent != received || a != shutNow {
			t.Fatalf("what follows: at the meeting %d of %d: %d were sent, %d received till they were told that it is closed; then %v", i, n, sent, received, a)
		}
		busy += aid.Digit(sent > 0)
	}
	if busy < meetings/20 {
		t.Errorf("the hands are no good: of %d at %d of %d something is sent", n, busy, meetings)
	}
}

func TestEndsMeet(t *testing.T) {
	for _, n := range []int{3, 5, hands, 3, 5, hands, 3, 4} {
		endsMeet(t, n, meetings)
	}
}

// TestEndsMeetStopped: the same, where the machine stops some of the hands in the midst of their calls.
func TestEndsMeetStopped(t *testing.T) {
	defer runtime.GOMAXPROCS(runtime.GOMAXPROCS(4 * hands))
	for _, n := range []int{3, hands, 3 * hands} {
		endsMeet(t, n, 3*meetings/n)
	}
}

// TestSleepersMeet: who is about to sleep as the others do what he waits for; nobody sleeps on.
func TestSleepersMeet(t *testing.T) {
	for _, n := range []int{2, 3, hands} {
		meet(t, n, 0, func(p *pipe.Pipe, h, i int) answer { // one closes, the others receive
			if h == i%n {
				return asked(p, nil, closes)
			}
			return asked(p, nil, recvs)
		}, func(p *pipe.Pipe, i int, told []answer) bool {
			return count(told, did) == 1 && count(told, closed) == n-1
		})
		meet(t, n, 2, func(p *pipe.Pipe, h, i int) answer { // one closes, the others send
			if h == i%n {
				return asked(p, nil, closes)
			}
			return asked(p, nil, sends(int64(h)))
		}, func(p *pipe.Pipe, i int, told []answer) bool {
			return count(told, did) == 1 && count(told, closed) == n-1
		})
		meet(t, n, 0, func(p *pipe.Pipe, h, i int) answer { // one sends for each that receives
			if h%2 == 1 {
				return asked(p, nil, sends(int64(h)))
			}
			if h == n-1 {
				return asked(p, nil, tries(7))
			}
			return asked(p, nil, recvs)
		}, func(p *pipe.Pipe, i int, told []answer) bool {
			return count(told, did)+n%2*count(told, not) == n
		})
		meet(t, n, 2, func(p *pipe.Pipe, h, i int) answer { // one receives for each that sends
			if h%2 == 1 {
				return asked(p, nil, recvs)
			}
			if h == n-1 {
				return asked(p, nil, asks)
			}
			return asked(p, nil, sends(int64(h)))
		}, func(p *pipe.Pipe, i int, told []answer) bool {
			return count(told, did)+n%2*count(told, not) == n
		})
	}
}

// TestRefusedInVain: with one who receives a TrySend is refused just if its place is not free yet; with one who sends a TryRecv is, just if its place is not full yet.
func TestRefusedInVain(t *testing.T) {
	const each = 40000
	for _, n := range []int{2, 4, 64} {
		for _, op := range []int{try, ask} {
			x, wrong := newPipe(n, nil), atomic.Int64{}
			free := int64(n) // so many may be done ahead of the one's first
			if op == ask {
				free = 0
			}
			var begun, ones atomic.Int64 // of the others those that began and were not refused; of the one those that were done
			aid.Beside(4, func(h int) {
				for range each {
					if h == 0 {
						ones.Add(int64(aid.Digit(asked(x, nil, call{op: try + ask - op}).how == did)))
						continue
					}
					least := ones.Load()
					begun.Add(1)
					if asked(x, nil, call{op: op}).how == did {
						continue
					}
					wrong.Add(int64(aid.Digit(least+free >= begun.Add(-1)+1)))
				}
			})
			if wrong.Load() != 0 {
				t.Errorf("what follows: of %d: %d times a %v is refused in vain", n, wrong.Load(), call{op: op})
			}
		}
	}
}

// TestOneOrder: small programs of several hands: there is an order of all calls that were not refused as yet in which a plain pipe answers so, and is left so.
func TestOneOrder(t *testing.T) {
	met := map[string]int{}
	for seed := range int64(6000) {
		r := rand.New(rand.NewSource(seed))
		n := 2 << r.Intn(2)
		x := newPipe(n, nil)
		var calls, done [4][]call
		var told [4][]answer
		for h := range calls {
			for i := range 4 {
				calls[h] = append(calls[h], call{op: aid.Some(r.Intn, []int{try, try, try, ask, ask, ask, shut}), v: int64(10*h + i)})
			}
		}
		aid.Beside(len(calls), func(h int) {
			for _, c := range calls[h] {
				if a := asked(x, nil, c); a != notYet {
					done[h], told[h] = append(done[h], c), append(told[h], a)
				}
			}
		})
		l := slices.Repeat([]call{asks}, n+1)
		left := allOf(x, nil, l...)
		fits := func(s plain) bool { return aid.Plainly(s, l, left, plainly) }
		if !aid.Explained(done[:], told[:], plain{room: n}, plainly, fits) {
			t.Fatalf("what follows: seed %d: of %d no order of %v answers %v and leaves %v", seed, n, done, told, left)
		}
		for _, a := range slices.Concat(told[:]...) {
			met[a.how]++
		}
	}
	if met[did] < 5000 || met[closed] < 5000 {
		t.Errorf("the hands are no good: %v", met)
	}
}
