package choice_test

import (
	"math/rand"
	"runtime"
	"slices"
	"sync/atomic"
	"testing"
	"testing/synctest"

	"treadle/aid"
	"treadle/api"
	"treadle/cell"
	"treadle/choice"
	"treadle/gate"
	"treadle/pipe"
)

// (What plain memory is handed on the race detector sees besides.)

const hands, meetings = 8, 20000

// asleep: a call in a goroutine of its own, and what it was answered.
type asleep struct {
	answered bool
	told     answer
}

// begun: goroutines that make each one of these calls; they have been answered, or sleep.
func begun(w *world, th *gate.Thread, calls ...call) (l []*asleep) {
	for _, c := range calls {
		s := &asleep{}
		l = append(l, s)
		go func() {
			s.told = w.asked(th, c)
			s.answered = true
		}()
	}
	synctest.Wait()
	return l
}

// answers: of those that were answered.
func answers(l []*asleep) (told []answer) {
	synctest.Wait()
	for _, s := range l {
		if s.answered {
			told = append(told, s.told)
		}
	}
	return told
}

// bubbles calls f by each thread that does not live, in a bubble of synctest: there Wait answers when all others sleep (who goes round and looks does not), and a bubble whose goroutines all sleep for good fails.
func bubbles(t *testing.T, f func(t *testing.T, th *gate.Thread)) {
	t.Helper()
	defer inTime()()
	for _, th := range aid.FreeThreads() {
		synctest.Test(t, func(t *testing.T) { f(t, th) })
	}
}

// TestWhoReceivesSleeps until something is in one of the pipes: each value wakes one, whoever it is, for good; and a Close all who are left.
func TestWhoReceivesSleeps(t *testing.T) {
	bubbles(t, func(t *testing.T, th *gate.Thread) {
		w := newWorld(made, planOf(3, 0))
		l := begun(w, th, slices.Repeat([]call{picks(from(0), from(1), from(2))}, 6)...)
		for k, v := range []int64{10, 11, 12} {
			if told := answers(l); len(told) != k {
				t.Errorf("what follows: %d were sent, and received %v", k, told)
			}
			w.asked(th, []call{puts(2, v), sends(0, v), tries(into(1, v)).by(0)}[k])
		}
		told := answers(l)
		slices.SortFunc(told, func(a, b answer) int { return int(a.v - b.v) })
		if want := []answer{got(2, 10), got(0, 11), got(1, 12)}; !slices.Equal(told, want) || w.asked(th, tries(from(0), from(1), from(2))) != notYet {
			t.Errorf("what follows: %v, not %v", told, want)
		}
		w.asked(th, closes(1))
		ended := 0
		for _, a := range append(answers(l), answers(begun(w, th, picks(from(0), from(1)), picks(from(1))))...) {
			ended += aid.Digit(a.how == over)
		}
		if ended != 5 {
			t.Errorf("what follows: behind the Close %v", answers(l))
		}
	})
}

// TestWhoSendsSleeps until there is room in one of the pipes; a Close tells those who are left, who have sent nothing.
func TestWhoSendsSleeps(t *testing.T) {
	bubbles(t, func(t *testing.T, th *gate.Thread) {
		w := newWorld(made, two)
		w.allOf(th, puts(0, 1), puts(0, 2), puts(1, 3), puts(1, 4))
		l := begun(w, th, picks(into(0, 11), into(1, 11)), picks(into(1, 12), into(0, 12)), picks(into(0, 13), into(1, 13)), picks(into(0, 14)))
		var received []int64
		for k, of := range []int{1, 1} {
			if told := answers(l); len(told) != k {
				t.Errorf("what follows: behind %d that were received %v", k, told)
			}
			received = append(received, w.asked(th, takes(of)).v)
		}
		if told := answers(l); len(told) != 2 || count(told, did) != 2 {
			t.Errorf("what follows: %v", told)
		}
		if w.asked(th, closes(0)); len(answers(l)) != 4 || count(answers(l), refused) != 2 || l[3].told != refusedBy(0) {
			t.Errorf("what follows: behind the Close %v", answers(l))
		}
		for _, of := range []int{0, 0, 1, 1} {
			received = append(received, w.asked(th, takes(of)).v)
		}
		want := []int64{1, 2, 3, 4}
		for i, s := range l {
			if s.told.how == did {
				want = append(want, int64(11+i))
			}
		}
		if slices.Sort(received); !slices.Equal(received, want) || w.asked(th, takes(1)) != notYet || w.asked(th, takes(0)) != shutNow {
			t.Errorf("what follows: received are %v, not %v", received, want)
		}
	})
}

// TestSleepsOn: who sleeps is woken by whatever rings the bell, and sleeps on, without another ticket, as long as none of his cases is ready.
func TestSleepsOn(t *testing.T) {
	bubbles(t, func(t *testing.T, th *gate.Thread) {
		w := newWorld(made, planOf(3, 0))
		w.allOf(th, puts(0, 1), puts(0, 2))
		l := begun(w, th, picks(into(0, 3), from(1)))
		w.allOf(th, puts(2, 5), takes(2), closes(2))
		w.bell.Add(th, 7)
		w.bell.Store(th, 1000)
		w.other.TryRecv(th)
		if told := answers(l); len(told) != 0 {
			t.Errorf("what follows: %v", told)
		}
		if a := w.asked(th, tries(from(2), from(2))); a != overBy(1) { // the ticket 2
			t.Errorf("P21.4: another ticket is taken: %v", a)
		}
		if w.asked(th, takes(0)); !slices.Equal(answers(l), []answer{sent(0)}) {
			t.Errorf("what follows: %v", answers(l))
		}
	})
}

// TestTheListBehindTheCall: what others write to a caller's list while a call sleeps it does not see.
func TestTheListBehindTheCall(t *testing.T) {
	bubbles(t, func(t *testing.T, th *gate.Thread) {
		w := newWorld(made, two)
		l := w.cases([]arm{from(0), from(1)})
		var got results
		go func() { got = resultsOf(w.choices[0].Select(th, l...)) }()
		synctest.Wait()
		clear(l)
		w.asked(th, puts(1, 5))
		if synctest.Wait(); got != (results{1, 5, true, 0}) {
			t.Errorf("P21.4, R5: %v", got)
		}
	})
}

// TestSleepersHandOn: those who sleep wake one another, along a row of pipes.
func TestSleepersHandOn(t *testing.T) {
	bubbles(t, func(t *testing.T, th *gate.Thread) {
		w := newWorld(made, planOf(3, 0))
		var got []int64
		for at := range 2 {
			go func() {
				for {
					a := w.asked(th, picks(from(at)))
					if a.how == over {
						w.asked(th, closes(at+1))
						return
					}
					w.asked(th, picks(into(at+1, a.v+100)))
				}
			}()
		}
		ended := false
		go func() {
			for a := w.asked(th, picks(from(2))); a.how == did; a = w.asked(th, picks(from(2))) {
				got = append(got, a.v)
			}
			ended = true
		}()
		for v := range int64(7) {
			w.asked(th, sends(0, v))
		}
		if synctest.Wait(); !slices.Equal(got, []int64{200, 201, 202, 203, 204, 205, 206}) || ended {
			t.Errorf("what follows: %v", got)
		}
		w.asked(th, closes(0))
		if synctest.Wait(); !ended {
			t.Error("what follows: who receives is not told that it is closed")
		}
	})
}

// count: how many were answered so.
func count(l []answer, how string) (n int) {
	for _, a := range l {
		n += aid.Digit(a.how == how)
	}
	return n
}

// stream: hands that send into whichever pipe has room, and hands that receive from whichever has something, till they are told of each that nothing comes any more.
type stream struct {
	bell               *cell.Cell
	pipes              []*pipe.Pipe
	c                  *choice.Choice
	senders, receivers int
	each               int
	sent, got          [][]int64 // of each hand; a value has the pipe's number besides
	wrong              atomic.Int64
	plain              [][]int // what a sender does ahead of each value
	closing            int     // what who closes them does ahead of that
}

func newStream(rooms []int, senders, receivers, each int) *stream {
	s := &stream{bell: cell.New(0), senders: senders, receivers: receivers, each: each}
	for _, n := range rooms {
		s.pipes = append(s.pipes, newPipe(n, s.bell))
	}
	s.c = choice.New(s.bell)
	return s
}

func (s *stream) fault(is bool) { s.wrong.Add(int64(aid.Digit(is))) }

// runs: the last one of those who send closes all pipes.
func (s *stream) runs() {
	s.sent, s.got, s.plain = make([][]int64, s.senders), make([][]int64, s.receivers), make([][]int, s.senders)
	for h := range s.plain {
		s.plain[h] = make([]int, s.each)
	}
	var left atomic.Int64
	left.Store(int64(s.senders))
	aid.Beside(s.senders+s.receivers, func(h int) {
		if h >= s.senders {
			s.receives(h - s.senders)
			return
		}
		s.sends(h)
		if left.Add(-1) == 0 {
			s.closing = 1
			for _, p := range s.pipes {
				s.fault(p.Close(nil) != api.OK)
			}
		}
	})
}

func (s *stream) sends(h int) {
	for k := range s.each {
		s.plain[h][k] = 1
		v := int64(h)<<32 + int64(k+1)
		var l []choice.Case
		for _, p := range s.pipes {
			l = append(l, choice.Case{Pipe: p, Send: true, Value: v})
		}
		x := results{i: -1}
		if k%7 == 3 {
			x = resultsOf(s.c.Try(nil, l...))
		}
		if x == (results{i: -1}) {
			x = resultsOf(s.c.Select(nil, l...))
		}
		if !x.ok || x.v != 0 || x.e != api.OK || x.i < 0 {
			s.fault(true)
			return
		}
		s.sent[h] = append(s.sent[h], v+int64(x.i)<<48)
	}
}

func (s *stream) receives(h int) {
	var open []int
	for i := range s.pipes {
		open = append(open, i)
	}
	for k := 0; len(open) > 0; k++ {
		var l []choice.Case
		for _, i := range open {
			l = append(l, choice.Case{Pipe: s.pipes[i]})
		}
		x := results{i: -1}
		if k%5 == 2 {
			x = resultsOf(s.c.Try(nil, l...))
		}
		if x == (results{i: -1}) {
			x = resultsOf(s.c.Select(nil, l...))
		}
		if x.i < 0 || x.e != api.OK {
			s.fault(true)
			return
		}
		if !x.ok {
			s.fault(s.closing != 1)
			open = slices.Delete(open, x.i, x.i+1)
			continue
		}
		by, n := int(x.v>>32), int(x.v&0xffffffff)-1
		if by < 0 || by >= s.senders || n < 0 || n >= s.each {
			s.fault(true)
			return
		}
		s.fault(s.plain[by][n] != 1)
		s.got[h] = append(s.got[h], x.v+int64(open[x.i])<<48)
	}
}

// holds: what is found behind it.
func (s *stream) holds() string {
	sent, got := slices.Concat(s.sent...), slices.Concat(s.got...)
	slices.Sort(sent)
	slices.Sort(got)
	for _, l := range s.got {
		last := map[int64]int64{} // by pipe and sender
		for _, v := range l {
			if last[v>>32] >= v {
				return "of one who sends a value comes ahead of an earlier one of that pipe"
			}
			last[v>>32] = v
		}
	}
	switch {
	case s.wrong.Load() != 0:
		return "something is told amiss"
	case !slices.Equal(sent, got):
		return "what was sent is not what was received, from where it was sent into"
	case len(sent) != s.senders*s.each:
		return "somebody has not sent"
	case s.bell.Load(nil) != int64(2*len(sent)+len(s.pipes)):
		return "the bell does not tell how much was done"
	}
	return ""
}

// TestStreams: all that was sent is received, once, from the pipe into which it was sent, in order; then all are told that nothing comes any more: nobody sleeps on.
func TestStreams(t *testing.T) {
	defer inTime()()
	for _, rooms := range [][]int{{2}, {2, 2}, {2, 4, 2}, {64, 2}, {api.MaxRing, 4}} {
		for _, who := range [][2]int{{1, 1}, {1, hands - 1}, {hands - 1, 1}, {hands / 2, hands / 2}} {
			s := newStream(rooms, who[0], who[1], 40000/who[0])
			if s.runs(); s.holds() != "" {
				t.Fatalf("what follows: %v, %v: %s: %d wrong", rooms, who, s.holds(), s.wrong.Load())
			}
		}
	}
}

// TestStoppedByTheMachine: streams whose hands are more than the machine lets go at one time, so that it stops them in the midst of their calls for a while.
func TestStoppedByTheMachine(t *testing.T) {
	defer inTime()()
	defer runtime.GOMAXPROCS(runtime.GOMAXPROCS(4 * hands))
	for i := range 6 {
		s := newStream([]int{2, 2 << (i % 3)}, hands, hands, 1500)
		if s.runs(); s.holds() != "" {
			t.Fatalf("what follows: %d: %s: %d wrong", i, s.holds(), s.wrong.Load())
		}
	}
}

// meet: so many hands meet, each time at another world, in which these calls were made.
func meet(t *testing.T, n, times int, of plan, first []call, f func(h, i int) call, holds func(w *world, i int, told []answer) bool) {
	t.Helper()
	defer inTime()()
	worlds := make([]*world, times)
	for i := range worlds {
		worlds[i] = newWorld(made, of)
		worlds[i].allOf(nil, first...)
	}
	told := make([][]answer, n)
	for h := range told {
		told[h] = make([]answer, times)
	}
	aid.Together(n, times, func(h, i int) { told[h][i] = worlds[i].asked(nil, f(h, i)) })
	for i, w := range worlds {
		var l []answer
		for h := range told {
			l = append(l, told[h][i])
		}
		if !holds(w, i, l) {
			t.Fatalf("what follows: at the meeting %d of %d: %v; then %v", i, n, l, w.allOf(nil, slices.Repeat([]call{tries(from(0), from(1))}, 5)...))
		}
	}
}

// TestOneHasTheValue: of those who choose together where one value is there just one has it.
func TestOneHasTheValue(t *testing.T) {
	meet(t, hands, meetings, two, []call{puts(1, 7)}, func(h, i int) call { return tries(from(0), from(1)) }, func(w *world, i int, told []answer) bool {
		return count(told, did) == 1 && slices.Contains(told, got(1, 7)) && count(told, not) == hands-1
	})
}

// TestEachHasAnother: of those who choose together as many have a value as there are, each another one; and nothing is done besides.
func TestEachHasAnother(t *testing.T) {
	meet(t, 4, meetings, two, []call{puts(0, 1), puts(1, 2), puts(0, 3), puts(1, 4)}, func(h, i int) call { return picks(from(0), from(1)) }, func(w *world, i int, told []answer) bool {
		all := true
		for _, a := range []answer{got(0, 1), got(1, 2), got(0, 3), got(1, 4)} {
			all = all && slices.Contains(told, a)
		}
		return all && w.bell.Load(nil) == 8 && slices.Equal(w.allOf(nil, takes(0), takes(1)), []answer{notYet, notYet})
	})
}

// TestSleepersMeet: who is about to sleep as the others do what he waits for; nobody sleeps on.
func TestSleepersMeet(t *testing.T) {
	for _, n := range []int{2, 3, hands} {
		meet(t, n, meetings, two, nil, func(h, i int) call { // one closes, the others receive
			if h == i%n {
				return closes(i / n % 2)
			}
			return picks(from(0), from(1))
		}, func(w *world, i int, told []answer) bool {
			return count(told, did) == 1 && count(told, over) == n-1
		})
		meet(t, n, meetings, two, nil, func(h, i int) call { // one sends for each that receives
			switch {
			case h == n-1 && n%2 == 1:
				return tries(into(0, 9))
			case h%2 == i%2:
				return picks(into(h%2, int64(h)), into(1-h%2, int64(h)))
			}
			return picks(from(0), from(1))
		}, func(w *world, i int, told []answer) bool {
			return count(told, did)+n%2*count(told, not) == n
		})
		full := []call{puts(0, 1), puts(0, 2), puts(1, 3), puts(1, 4)}
		meet(t, n, meetings, two, full, func(h, i int) call { // one receives for each that sends
			switch {
			case h == n-1 && n%2 == 1:
				return tries(from(0))
			case h%2 == i%2:
				return picks(into(0, int64(h)), into(1, int64(h)))
			}
			return picks(from(0), from(1))
		}, func(w *world, i int, told []answer) bool {
			return count(told, did)+n%2*count(told, not) == n
		})
	}
}

// TestLongLooks: while one looks at many cases another one does what the first ones of them wait for: whenever that is nobody sleeps through it.
func TestLongLooks(t *testing.T) {
	defer inTime()()
	const cases, times = 4000, 2000
	for _, row := range []struct {
		first []call
		ready arm
		does  call
		want  results
	}{
		{nil, from(0), puts(0, 5), results{times, 5, true, api.OK}},
		{[]call{puts(0, 1), puts(0, 2)}, into(0, 9), takes(0), results{times, 0, true, api.OK}},
	} {
		w := newWorld(made, two)
		w.allOf(nil, row.first...)
		arms := slices.Repeat([]arm{from(1)}, cases)
		arms[times] = row.ready // each look begins one case nearer to it
		l, done, wrong := w.cases(arms), make(chan int), [2]int{}
		aid.Beside(2, func(h int) {
			for i := range times {
				if h == 0 {
					wrong[h] += aid.Digit(resultsOf(w.choices[0].Select(nil, l...)) != row.want)
					done <- i
					continue
				}
				for range i % 100 * 300 { // it comes earlier or later
					runtime.KeepAlive(i)
				}
				wrong[h] += aid.Digit(w.asked(nil, row.does).how != did)
				<-done
			}
		})
		if wrong != [2]int{} {
			t.Errorf("what follows: %v: so often something is told amiss: %v", row.ready, wrong)
		}
	}
}

// TestTicketsAreUnlike: of many hands each call has a ticket of its own: where all cases are ready each is taken as often as the others.
func TestTicketsAreUnlike(t *testing.T) {
	defer inTime()()
	const n, each = 5, 200000
	bell := cell.New(0)
	ended := newPipe(2, bell)
	ended.Close(nil)
	c := choice.New(bell)
	l := slices.Repeat([]choice.Case{{Pipe: ended}}, n)
	var taken [hands][n]int
	aid.Beside(hands, func(h int) {
		for k := range each {
			by := []func(t *gate.Thread, l ...choice.Case) (int, int64, bool, api.Errno){c.Try, c.Select}[k%2]
			if i, _, _, _ := by(nil, l...); i >= 0 {
				taken[h][i]++
			}
		}
	})
	for i := range n {
		all := 0
		for h := range taken {
			all += taken[h][i]
		}
		if all != hands*each/n {
			t.Errorf("P21.3, P21.4: the case %d is taken %d times, not %d", i, all, hands*each/n)
		}
	}
}

// TestOneOrder: small programs of several hands: there is an order of all that was done to the pipes in which plain pipes answer so, and are left so.
func TestOneOrder(t *testing.T) {
	defer inTime()()
	met := map[string]int{}
	for seed := range int64(5000) {
		r := rand.New(rand.NewSource(seed))
		w := newWorld(made, two)
		var calls, done [4][]call
		var told [4][]answer
		for h := range calls {
			for k := range 4 {
				v := int64(10*h + k + 1)
				calls[h] = append(calls[h], aid.Some(r.Intn, []call{tries(from(0), from(1)), tries(into(0, v), into(1, v)), tries(from(1), into(0, v)), puts(0, v), takes(1), tries(into(1, v), from(0)), closes(r.Intn(2))}))
			}
		}
		aid.Beside(len(calls), func(h int) {
			for _, c := range calls[h] {
				if a := w.asked(nil, c); a.how != not {
					c, a = asOfPipe(c, a)
					done[h], told[h] = append(done[h], c), append(told[h], a)
				}
			}
		})
		l := []call{takes(0), takes(0), takes(0), takes(1), takes(1), takes(1)}
		left := w.allOf(nil, l...)
		fits := func(s plain) bool { return aid.Plainly(s, l, left, plainly) }
		if !aid.Explained(done[:], told[:], newPlain(two), plainly, fits) {
			t.Fatalf("what follows: seed %d: no order of %v answers %v and leaves %v", seed, done, told, left)
		}
		for _, a := range slices.Concat(told[:]...) {
			met[a.how]++
		}
	}
	if met[did] < 5000 || met[closed] < 5000 {
		t.Errorf("the hands are no good: %v", met)
	}
}

// asOfPipe: what a call of a choice did, as a call of the pipe.
func asOfPipe(c call, a answer) (call, answer) {
	if !c.chooses() || a.i < 0 {
		return c, a
	}
	if a.how != did {
		a.how = closed
	}
	x := c.arms[a.i]
	if a.i = -1; x.send {
		return puts(x.of, x.v), a
	}
	return takes(x.of), a
}

// TestNewBesideOthers: a choice of a bell that others ring meanwhile; and of one that nobody does anything to, nor New.
func TestNewBesideOthers(t *testing.T) {
	bell, still := cell.New(0), cell.New(5)
	var wrong atomic.Int64
	aid.Beside(hands, func(h int) {
		for range 4000 {
			if h%2 == 0 {
				bell.Add(nil, int64(h-3))
				for range 500 {
					if still.Load(nil) != 5 {
						wrong.Add(1)
					}
				}
				continue
			}
			wrong.Add(int64(aid.Digit(choice.New(bell) == nil) + aid.Digit(choice.New(still) == nil)))
		}
	})
	if wrong.Load() != 0 || bell.Load(nil) != 4000*(-3-1+1+3) {
		t.Errorf("P21.1: %d times there is none, or it does something to the bell; that is %d then", wrong.Load(), bell.Load(nil))
	}
}
