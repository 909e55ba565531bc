package pipe_test

import (
	"math"
	"math/rand"
	"slices"
	"testing"

	"treadle/aid"
	"treadle/api"
	"treadle/cell"
	"treadle/gate"
	"treadle/pipe"
)

// What calls are answered.
var okay, notYet, shutNow, noPipe = answer{how: did}, answer{how: not}, answer{how: closed}, answer{how: "ErrNil"}

// TestExamples: the chapter's table, by each thread that does not live, and by one that does.
func TestExamples(t *testing.T) {
	if pipe.Did != 1 || pipe.Not != 2 || pipe.Closed != 3 {
		t.Errorf("the constants are %d %d %d", pipe.Did, pipe.Not, pipe.Closed)
	}
	for _, f := range aid.By(func(who string, th *gate.Thread) {
		for _, n := range []int{1, 3} {
			if p, e := pipe.New(n, nil); p != nil || e != api.ErrArg {
				t.Errorf("P20.1: New(%d, nil): %v, %d", n, p, e)
			}
		}
		p := newPipe(2, nil)
		calls := []call{asks, tries(7), tries(8), tries(9), asks, sends(9), closes, closes, tries(5), recvs, recvs, recvs, asks}
		want := []answer{notYet, okay, okay, notYet, got(7), okay, okay, shutNow, shutNow, got(8), got(9), shutNow, shutNow}
		if l := allOf(p, th, calls...); !slices.Equal(l, want) || p.Bell().Load(th) != 7 {
			t.Errorf("P20.2 to P20.5: by %s: %v: %v, not %v; the bell %d", who, calls, l, want, p.Bell().Load(th))
		}
	}) {
		t.Errorf("R1: %s", f)
	}
}

// TestExamplesOfThreads: the chapter's, under a gate.
func TestExamplesOfThreads(t *testing.T) {
	const alone = "0 load c0: 0; 0 load c1: 0; 0 load c2: 0; 0 load c3: 0"
	p := newPipe(2, nil)
	recv := func(t *gate.Thread) { p.Recv(t) }
	if r := gate.Run(nil, 99, recv); aid.Texts(r.Log) != alone || aid.Texts(r.Left) != "0 park c0 0: 0" || r.End != api.Dead {
		t.Errorf("P20.4: %s; left %s; end %d", aid.Texts(r.Log), aid.Texts(r.Left), r.End)
	}
	var told answer
	r := gate.Run(make([]int, 4), 99, func(t *gate.Thread) { told = asked(p, t, recvs) }, func(t *gate.Thread) { p.Close(t) })
	if s := aid.Texts(r.Log); s != alone+"; 1 load c3: 0; 1 cas c3 0 1: 0 ok; 1 add c0 1: 0; 0 park c0 0: 1; 0 load c0: 1; 0 load c1: 0; 0 load c2: 0; 0 load c3: 1" || r.End != api.Over || told != shutNow {
		t.Errorf("P20.4, P20.5: %s; end %d; %v", s, r.End, told)
	}
}

// TestSizes: of which sizes there are pipes: the powers of two from 2 to MaxRing, whatever their bell; else ErrArg, and no bell is rung.
func TestSizes(t *testing.T) {
	for _, f := range aid.Rooms(func(n int, rung int64) (bool, api.Errno) {
		bell := cell.New(rung)
		p, e := pipe.New(n, bell)
		q, no := pipe.New(n, nil)
		r, none := pipe.New(n, &cell.Cell{})
		if e != no || e != none || (p == nil) != (q == nil) || (p == nil) != (r == nil) || bell.Load(nil) != rung {
			t.Fatalf("P20.1: New(%d): %d, %d, %d; the bell %d", n, e, no, none, bell.Load(nil))
		}
		if p != nil && (p.Bell() != bell || q.Bell().Load(nil) != 0) {
			t.Fatalf("P20.1: New(%d): the bells", n)
		}
		return p != nil, e
	}) {
		t.Errorf("P20.1: %s", f)
	}
}

// TestGoesAround: pipes of each size are filled and emptied, again and again; by a thread as by the words.
func TestGoesAround(t *testing.T) {
	for n := 2; n <= api.MaxRing; n *= 2 {
		if n <= 1024 { // of more places a run has too few turns
			newPair(t, one(n)).ends(t)
		}
		p := newPipe(n, nil)
		for round := range 3 {
			for i := range n + 1 {
				if a := asked(p, nil, tries(int64(round*n+i))); i < n && a != okay || i == n && a != notYet {
					t.Fatalf("P20.2: of %d, round %d: the TrySend number %d: %v", n, round, i, a)
				}
			}
			for i := range n + 1 {
				if a := asked(p, nil, asks); i < n && a != got(int64(round*n+i)) || i == n && a != notYet {
					t.Fatalf("P20.3: of %d, round %d: the TryRecv number %d: %v", n, round, i, a)
				}
			}
		}
	}
}

// TestFirst: what all cells of a pipe hold at first: of each size one thread goes around in it.
func TestFirst(t *testing.T) {
	for n := 2; n <= api.MaxRing; n *= 2 {
		w := newWorld(made, one(n))
		var fills []call
		for range n {
			fills = append(fills, tries(-7))
		}
		r, _ := w.one(fills...)
		for i := range n {
			l := r.Log[6*i : 6*i+6]
			if l[0].Was != int64(2*i) || l[1].Was != int64(i) || l[3].Was != 0 || l[4].Was != int64(i) || l[4].Arg != int64(i+1) || l[5].Was != int64(i) {
				t.Fatalf("P20.1: of %d: the TrySend number %d: %s", n, i, aid.Texts(l))
			}
		}
		if r, _ = w.one(asks); r.Log[0].Was != 0 || r.Log[4].Arg != int64(n) || r.End != api.Over {
			t.Errorf("P20.1: of %d: %s", n, aid.Texts(r.Log))
		}
	}
}

// TestSteps: of each call, where nobody else goes between them.
func TestSteps(t *testing.T) {
	full := []call{tries(7), tries(8)}
	ended := []call{tries(7), closes, asks}
	for _, row := range []struct {
		of    plan
		first []call
		c     call
		log   string
		told  string
	}{
		{one(2), nil, tries(7), "0 load c0: 0; 0 load c1: 0; 0 cas c0 0 2: 0 ok; 0 store c2 7: 0; 0 store c1 1: 0; 0 add c3 1: 0", "try0(7):did"},
		{one(2), full[:1], tries(9), "0 load c0: 2; 0 load c1: 1; 0 cas c0 2 4: 2 ok; 0 store c2 9: 0; 0 store c1 2: 1; 0 add c3 1: 1", "try0(9):did"},
		{one(2), full, tries(9), "0 load c0: 4; 0 load c1: 1", "try0(9):not"},
		{one(2), []call{tries(7), tries(8), asks}, tries(9), "0 load c0: 4; 0 load c1: 2; 0 cas c0 4 6: 4 ok; 0 store c2 9: 7; 0 store c1 3: 2; 0 add c3 1: 3", "try0(9):did"},
		{one(2), []call{closes}, tries(9), "0 load c0: 1", "try0(9):closed"},
		{one(2), []call{tries(7), tries(8), closes}, tries(9), "0 load c0: 5", "try0(9):closed"},
		{one(2), ended, tries(9), "0 load c0: 3", "try0(9):closed"},
		{one(4096), nil, tries(math.MinInt64), "0 load c0: 0; 0 load c1: 0; 0 cas c0 0 2: 0 ok; 0 store c2 -9223372036854775808: 0; 0 store c1 1: 0; 0 add c3 1: 0", "try0(-9223372036854775808):did"},
		{two, nil, tries(7).on(1), "0 load c0: 0; 0 load c1: 0; 0 cas c0 0 2: 0 ok; 0 store c2 7: 0; 0 store c1 1: 0; 0 add c3 1: 9223372036854775806", "try1(7):did"},
		{two, full[:1], tries(7).on(1), "0 load c0: 0; 0 load c1: 0; 0 cas c0 0 2: 0 ok; 0 store c2 7: 0; 0 store c1 1: 0; 0 add c3 1: 9223372036854775807", "try1(7):did"},

		{one(2), nil, asks, "0 load c0: 0; 0 load c1: 0; 0 load c2: 0", "ask0:not"},
		{one(2), full[:1], asks, "0 load c0: 0; 0 load c1: 1; 0 cas c0 0 1: 0 ok; 0 load c2: 7; 0 store c1 2: 1; 0 add c3 1: 1", "ask0:did_7"},
		{one(2), []call{tries(7), asks}, asks, "0 load c0: 1; 0 load c1: 1; 0 load c2: 2", "ask0:not"},
		{one(2), []call{tries(7), tries(8), asks}, asks, "0 load c0: 1; 0 load c1: 2; 0 cas c0 1 2: 1 ok; 0 load c2: 8; 0 store c1 3: 2; 0 add c3 1: 3", "ask0:did_8"},
		{one(2), []call{closes}, asks, "0 load c0: 0; 0 load c1: 0; 0 load c2: 1", "ask0:closed"},
		{one(2), []call{tries(7), closes}, asks, "0 load c0: 0; 0 load c1: 1; 0 cas c0 0 1: 0 ok; 0 load c2: 7; 0 store c1 2: 1; 0 add c3 1: 2", "ask0:did_7"},
		{one(2), ended, asks, "0 load c0: 1; 0 load c1: 1; 0 load c2: 3", "ask0:closed"},
		{one(4096), full[:1], asks, "0 load c0: 0; 0 load c1: 1; 0 cas c0 0 1: 0 ok; 0 load c2: 7; 0 store c1 4096: 1; 0 add c3 1: 1", "ask0:did_7"},

		{one(2), nil, sends(7), "0 load c0: 0; 0 load c1: 0; 0 load c2: 0; 0 cas c1 0 2: 0 ok; 0 store c3 7: 0; 0 store c2 1: 0; 0 add c0 1: 0", "send0(7):did"},
		{one(2), full[:1], sends(9), "0 load c0: 1; 0 load c1: 2; 0 load c2: 1; 0 cas c1 2 4: 2 ok; 0 store c3 9: 0; 0 store c2 2: 1; 0 add c0 1: 1", "send0(9):did"},
		{one(2), []call{closes}, sends(9), "0 load c0: 1; 0 load c1: 1", "send0(9):closed"},
		{one(2), []call{tries(7), tries(8), closes}, sends(9), "0 load c0: 3; 0 load c1: 5", "send0(9):closed"},
		{two, full[:1], sends(7).on(1), "0 load c0: 9223372036854775807; 0 load c1: 0; 0 load c2: 0; 0 cas c1 0 2: 0 ok; 0 store c3 7: 0; 0 store c2 1: 0; 0 add c0 1: 9223372036854775807", "send1(7):did"},

		{one(2), full[:1], recvs, "0 load c0: 1; 0 load c1: 0; 0 load c2: 1; 0 cas c1 0 1: 0 ok; 0 load c3: 7; 0 store c2 2: 1; 0 add c0 1: 1", "recv0:did_7"},
		{one(2), []call{tries(7), closes}, recvs, "0 load c0: 2; 0 load c1: 0; 0 load c2: 1; 0 cas c1 0 1: 0 ok; 0 load c3: 7; 0 store c2 2: 1; 0 add c0 1: 2", "recv0:did_7"},
		{one(2), []call{closes}, recvs, "0 load c0: 1; 0 load c1: 0; 0 load c2: 0; 0 load c3: 1", "recv0:closed"},
		{one(2), ended, recvs, "0 load c0: 3; 0 load c1: 1; 0 load c2: 1; 0 load c3: 3", "recv0:closed"},

		{one(2), nil, closes, "0 load c0: 0; 0 cas c0 0 1: 0 ok; 0 add c1 1: 0", "close0:did"},
		{one(2), full, closes, "0 load c0: 4; 0 cas c0 4 5: 4 ok; 0 add c1 1: 2", "close0:did"},
		{one(2), []call{closes}, closes, "0 load c0: 1", "close0:closed"},
		{one(2), ended, closes, "0 load c0: 3", "close0:closed"},
		{two, full, closes.on(1), "0 load c0: 0; 0 cas c0 0 1: 0 ok; 0 add c1 1: -9223372036854775808", "close1:did"},

		{one(2), nil, tries(7).on(-1), "", "try-1(7):closed"},
		{one(2), nil, tries(7).on(-2), "", "try-2(7):closed"},
		{one(2), nil, asks.on(-1), "", "ask-1:closed"},
		{one(2), nil, asks.on(-2), "", "ask-2:closed"},
		{one(2), nil, sends(7).on(-1), "", "send-1(7):ErrNil"},
		{one(2), nil, sends(7).on(-2), "", "send-2(7):ErrNil"},
		{one(2), nil, recvs.on(-1), "", "recv-1:ErrNil"},
		{one(2), nil, recvs.on(-2), "", "recv-2:ErrNil"},
		{one(2), nil, closes.on(-1), "", "close-1:ErrNil"},
		{one(2), nil, closes.on(-2), "", "close-2:ErrNil"},
	} {
		w := ours(row.of, row.first...)
		report, told := w.one(row.c)
		if log := aid.Texts(report.Log); log != row.log || told != row.told || report.End != api.Over || len(w.follows(false)) != 0 {
			t.Errorf("P20.2 to P20.5: %v behind %v of %v:\n got %s: %s\nwant %s: %s: %v", row.c, row.first, row.of, told, log, row.told, row.log, w.follows(false))
		}
	}
}

// TestSleeps: who sends into what is full, or receives from what is empty, sleeps at the bell.
func TestSleeps(t *testing.T) {
	for _, row := range []struct {
		of    plan
		first []call
		c     call
		log   string
		left  string
	}{
		{one(2), nil, recvs, "0 load c0: 0; 0 load c1: 0; 0 load c2: 0; 0 load c3: 0", "0 park c0 0: 0"},
		{one(2), []call{tries(7), asks}, recvs, "0 load c0: 2; 0 load c1: 1; 0 load c2: 1; 0 load c3: 2", "0 park c0 2: 2"},
		{one(2), []call{tries(7), tries(8)}, sends(9), "0 load c0: 2; 0 load c1: 4; 0 load c2: 1", "0 park c0 2: 2"},
		{two, []call{tries(7), tries(8)}, recvs.on(1), "0 load c0: -9223372036854775808; 0 load c1: 0; 0 load c2: 0; 0 load c3: 0", "0 park c0 -9223372036854775808: -9223372036854775808"},
		{two, []call{tries(7), tries(8)}, sends(9), "0 load c0: -9223372036854775808; 0 load c1: 4; 0 load c2: 1", "0 park c0 -9223372036854775808: -9223372036854775808"},
	} {
		w := ours(row.of, row.first...)
		r, told := w.one(row.c)
		if log, left := aid.Texts(r.Log), aid.Texts(r.Left); log != row.log || left != row.left || told != "" || r.End != api.Dead || len(w.follows(true)) != 0 {
			t.Errorf("P20.4: %v behind %v: %s\nnot %s: left %s, not %s: %v", row.c, row.first, log, row.log, left, row.left, w.follows(true))
		}
	}
}

// TestRows: all short rows of calls of one pipe, by a thread, as by the words, up to where it sleeps.
func TestRows(t *testing.T) {
	for _, l := range aid.Rows([]call{tries(1), asks, sends(2), recvs, closes}, 6) {
		for i := range l {
			if l[i].isSending() {
				l[i].v = int64(10*i) + l[i].v // rows share no memory
			}
		}
		s, want := plain{room: 2}, []answer{}
		for _, c := range l {
			var a answer
			if s, a = plainly(s, c); a == sleeps {
				break
			}
			want = append(want, a)
		}
		var told []answer
		p := newPipe(2, nil)
		r := gate.Run(nil, api.MaxTurns, func(t *gate.Thread) {
			for _, c := range l {
				told = append(told, asked(p, t, c))
			}
		})
		if !slices.Equal(told, want) || (r.End == api.Over) != (len(want) == len(l)) || p.Bell().Load(nil) != rung(want) {
			t.Fatalf("P20.2 to P20.5: %v: %v, not %v: end %d, the bell %d", l, told, want, r.End, p.Bell().Load(nil))
		}
	}
}

// TestFreeAlone: random calls of one goroutine by threads that do not live, now and then by one that does, held against a plain queue.
func TestFreeAlone(t *testing.T) {
	defer inTime()()
	threads := aid.FreeThreads()
	met := map[string]int{}
	for seed := range int64(3000) {
		r := rand.New(rand.NewSource(seed))
		n := 2 << r.Intn(4)
		bell := cell.New(aid.Some(r.Intn, aid.Positions()))
		p, s, from := newPipe(n, bell), plain{room: n}, bell.Load(nil)
		for i := range 120 {
			c := call{op: aid.Some(r.Intn, []int{try, try, ask, ask, send, recv}), v: aid.Some(r.Intn, aid.Values())}
			if i/20%2 == 0 { // for a while more are sent, then more are received
				c.op = aid.Some(r.Intn, []int{try, try, send, ask})
			}
			if r.Intn(100) == 0 {
				c.op = shut
			}
			next, want := plainly(s, c)
			if want == sleeps {
				continue
			}
			s = next
			var a answer
			if r.Intn(4) == 0 {
				gate.Run(nil, api.MaxTurns, func(t *gate.Thread) { a = asked(p, t, c) })
			} else {
				a = asked(p, aid.Some(r.Intn, threads), c)
			}
			from += int64(aid.Digit(want.how == did))
			if a != want || bell.Load(nil) != from {
				t.Fatalf("P20.2 to P20.5: seed %d: of %d %v answers %v, not %v: %+v; the bell %d, not %d", seed, n, c, a, want, s, bell.Load(nil), from)
			}
			met[[]string{"try ", "ask ", "send ", "recv ", "close "}[c.op]+want.how]++
		}
	}
	for _, what := range []string{"try did", "try not", "try closed", "ask did", "ask not", "ask closed", "send did", "send closed", "recv did", "recv closed", "close did", "close closed"} {
		if met[what] < 300 {
			t.Errorf("the calls are no good: %s: %d in %v", what, met[what], met)
		}
	}
}

// TestNone: pipes that are none, by threads of every kind: no access, and no bell.
func TestNone(t *testing.T) {
	var null *pipe.Pipe
	refused, _ := pipe.New(3, cell.New(0))
	calls := []call{tries(5), asks, sends(6), recvs, closes, closes, tries(math.MinInt64), asks}
	want := []answer{shutNow, shutNow, noPipe, noPipe, noPipe, noPipe, shutNow, shutNow}
	for _, f := range aid.Idle(func(who string, th *gate.Thread) {
		for what, p := range map[string]*pipe.Pipe{"nil": null, "made by no call": {}, "made by new": new(pipe.Pipe), "refused": refused} {
			if l := allOf(p, th, calls...); !slices.Equal(l, want) || p.Bell() != nil {
				t.Errorf("R3: %s, by %s: %v, not %v; the bell %v", what, who, l, want, p.Bell())
			}
		}
	}) {
		t.Errorf("R3: %s", f)
	}
}

// TestRefused: what is refused changes nothing, however often, and rings no bell.
func TestRefused(t *testing.T) {
	for _, n := range []int{2, 4, 64, api.MaxRing} {
		p := newPipe(n, nil)
		again := func(want answer, c call) {
			before := p.Bell().Load(nil)
			for range n + 3 {
				if a := asked(p, nil, c); a != want || p.Bell().Load(nil) != before {
					t.Fatalf("R2: of %d: %v: %v, not %v; the bell %d, not %d", n, c, a, want, p.Bell().Load(nil), before)
				}
			}
		}
		for round := range int64(3) {
			again(notYet, asks)
			for i := range n {
				if a := asked(p, nil, tries(round+int64(i))); a != okay {
					t.Fatalf("P20.2: of %d: the TrySend number %d: %v", n, i, a)
				}
			}
			again(notYet, tries(-5))
			if round == 2 {
				p.Close(nil)
				again(shutNow, tries(-5))
				again(shutNow, sends(-5))
				again(shutNow, closes)
			}
			for i := range n {
				if a := asked(p, nil, recvs); a != got(round+int64(i)) {
					t.Fatalf("P20.4: of %d: the Recv number %d: %v", n, i, a)
				}
			}
		}
		for _, c := range []call{asks, recvs, tries(1), sends(1), closes} {
			again(shutNow, c)
		}
	}
}
