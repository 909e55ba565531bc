package choice_test

import (
	"math"
	"math/rand"
	"slices"
	"testing"

	"treadle/aid"
	"treadle/api"
	"treadle/cell"
	"treadle/choice"
	"treadle/gate"
	"treadle/pipe"
)

// TestExamples: the chapter's table, by each thread that does not live, and by one that does.
func TestExamples(t *testing.T) {
	defer inTime()()
	for _, f := range aid.By(func(who string, th *gate.Thread) {
		w := newWorld(made, two)
		for i, row := range []struct {
			c    call
			want answer
		}{
			{tries(from(0), from(1)), notYet},
			{puts(0, 5), okay}, {puts(1, 6), okay}, {puts(0, 7), okay},
			{picks(from(0), from(1)), got(1, 6)}, {picks(from(0), from(1)), got(0, 5)},
			{picks(from(1), into(0, 8)), sent(1)},
			{closes(0), okay},
			{picks(into(0, 1)), refusedBy(0)},
			{picks(from(0)), got(0, 7)}, {picks(from(0)), got(0, 8)}, {picks(from(0)), overBy(0)},
			{picks(), noOne}, {tries(from(null)), noPipe}, {picks(from(strange)), apart},
		} {
			if a := w.asked(th, row.c); a != row.want {
				t.Errorf("P21.2 to P21.4: by %s: %d: %v: %v, not %v", who, i, row.c, a, row.want)
			}
		}
	}) {
		t.Errorf("R1: %s", f)
	}
}

// results: what a call of a choice answers, as it is, without the names that the other tests have for it.
type results struct {
	i  int
	v  int64
	ok bool
	e  api.Errno
}

func resultsOf(i int, v int64, ok bool, e api.Errno) results { return results{i, v, ok, e} }

// TestAnswers: calls one behind the other.
func TestAnswers(t *testing.T) {
	defer inTime()()
	bell := cell.New(0)
	a, b := newPipe(2, bell), newPipe(2, bell)
	c := choice.New(bell)
	in := func(p *pipe.Pipe, v int64) choice.Case { return choice.Case{Pipe: p, Send: true, Value: v} }
	out := func(p *pipe.Pipe) choice.Case { return choice.Case{Pipe: p, Value: 77} }
	var l []results
	chosen := func(x results) { l = append(l, x) }
	chosen(resultsOf(c.Try(nil, out(a))))
	chosen(resultsOf(c.Try(nil, in(a, 5))))
	chosen(resultsOf(c.Try(nil, out(b), out(a))))
	chosen(resultsOf(c.Select(nil, in(a, math.MinInt64), in(a, 6))))
	chosen(resultsOf(c.Select(nil, in(a, 0))))
	chosen(resultsOf(c.Try(nil, in(a, 7))))
	chosen(resultsOf(c.Select(nil, out(a))))
	chosen(resultsOf(c.Select(nil, out(b), out(a))))
	chosen(resultsOf(c.Try(nil, out(a), in(b, 9), out(a))))
	b.Close(nil)
	chosen(resultsOf(c.Try(nil, in(a, 1), in(b, 9))))
	chosen(resultsOf(c.Select(nil, in(b, 9), in(a, 2))))
	chosen(resultsOf(c.Select(nil, out(b))))
	chosen(resultsOf(c.Select(nil, out(b), out(b))))
	chosen(resultsOf(c.Try(nil, out(b))))
	want := []results{
		{-1, 0, false, 0}, {0, 0, true, 0}, {1, 5, true, 0}, {1, 0, true, 0}, {0, 0, true, 0}, {-1, 0, false, 0}, {0, 6, true, 0}, {1, 0, true, 0},
		{1, 0, true, 0}, {1, 0, false, 13}, {0, 0, false, 13}, {0, 9, true, 0}, {0, 0, false, 0}, {0, 0, false, 0},
	}
	if !slices.Equal(l, want) {
		t.Errorf("P21.3, P21.4:\n got %v\nwant %v", l, want)
	}
}

// TestRefusals: of several errors the one that is named first; beside it zero values.
func TestRefusals(t *testing.T) {
	defer inTime()()
	bell := cell.New(0)
	a, other, none := newPipe(2, bell), newPipe(2, nil), &pipe.Pipe{}
	c := choice.New(bell)
	in := func(p *pipe.Pipe) choice.Case { return choice.Case{Pipe: p, Send: true, Value: 4} }
	out := func(p *pipe.Pipe) choice.Case { return choice.Case{Pipe: p} }
	for i, row := range []struct {
		c    *choice.Choice
		l    []choice.Case
		want api.Errno
	}{
		{c, nil, 25},
		{c, []choice.Case{}, 25},
		{c, make([]choice.Case, 0, 3), 25},
		{c, []choice.Case{{}}, 2},
		{c, []choice.Case{{Send: true, Value: 3}}, 2},
		{c, []choice.Case{in(none)}, 2},
		{c, []choice.Case{out(none)}, 2},
		{c, []choice.Case{in(a), {}}, 2},
		{c, []choice.Case{{}, in(a)}, 2},
		{c, []choice.Case{in(a), out(a), in(none), out(a)}, 2},
		{c, []choice.Case{in(other)}, 1},
		{c, []choice.Case{out(other)}, 1},
		{c, []choice.Case{in(a), out(other)}, 1},
		{c, []choice.Case{in(other), out(a)}, 1},
		{c, []choice.Case{in(other), {}}, 2},
		{c, []choice.Case{{}, in(other)}, 2},
		{c, []choice.Case{out(other), out(none)}, 2},
		{nil, []choice.Case{in(a)}, 2},
		{nil, nil, 2},
		{nil, []choice.Case{in(other)}, 2},
		{nil, []choice.Case{{}}, 2},
		{&choice.Choice{}, []choice.Case{in(a)}, 2},
		{&choice.Choice{}, nil, 2},
		{new(choice.Choice), []choice.Case{out(other)}, 2},
		{choice.New(other.Bell()), []choice.Case{in(a)}, 1},
		{choice.New(nil), []choice.Case{in(a)}, 2},
		{choice.New(&cell.Cell{}), []choice.Case{in(a)}, 2},
	} {
		other.TrySend(nil, 1)
		want := results{-1, 0, false, row.want}
		if x, y := resultsOf(row.c.Try(nil, row.l...)), resultsOf(row.c.Select(nil, row.l...)); x != want || y != want {
			t.Errorf("P21.2, R2, R3: %d: %v, %v, not %v", i, x, y, want)
		}
	}
	if x := resultsOf(c.Try(nil, out(a), in(a))); x != (results{1, 0, true, 0}) || bell.Load(nil) != 1 {
		t.Errorf("R2: behind that: %v", x)
	}
}

// TestNoAccess: what is refused makes none, by whomever, and changes nothing: neither the ticket, nor the bell, nor a pipe of its cases.
func TestNoAccess(t *testing.T) {
	defer inTime()()
	w := newWorld(made, two)
	rows := []struct {
		c    call
		want answer
	}{
		{tries(), noOne}, {picks(), noOne}, {tries(from(null)), noPipe}, {picks(into(unmade, 5)), noPipe}, {tries(into(0, 5), from(null)), noPipe}, {picks(from(0), into(1, 5), from(unmade)), noPipe},
		{tries(from(strange)), apart}, {picks(into(0, 5), from(strange), into(1, 5)), apart}, {tries(into(0, 5), into(strange, 5)), apart}, {picks(into(strange, 5), into(null, 5)), noPipe},
		{tries(into(0, 5)).by(null), noPipe}, {picks(into(0, 5)).by(null), noPipe}, {tries(into(0, 5)).by(unmade), noPipe}, {picks(into(0, 5)).by(unmade), noPipe}, {tries().by(null), noPipe}, {picks(from(strange)).by(unmade), noPipe},
	}
	for _, f := range aid.Idle(func(who string, th *gate.Thread) {
		for _, row := range rows {
			if a := w.asked(th, row.c); a != row.want {
				t.Errorf("P21.2, R3: by %s: %v: %v, not %v", who, row.c, a, row.want)
			}
		}
	}) {
		t.Errorf("P21.2: %s", f)
	}
	w.pipes[0].TrySend(nil, 1)
	w.pipes[1].TrySend(nil, 2)
	r, told := w.one(picks(from(0), from(1)), tries(from(0), from(1)), tries(from(0), from(1)))
	if told != "select0(r0,r1):did@0_1 try0(r0,r1):did@1_2 try0(r0,r1):not" || r.Log[0].Was != 0 || w.bell.Load(nil) != 4 {
		t.Errorf("R2: behind that %s: %s", told, aid.Texts(r.Log))
	}
}

// TestSteps: of each call, where nobody else goes between them.
func TestSteps(t *testing.T) {
	both := []call{puts(0, 5), puts(1, 6)}
	full := []call{puts(0, 1), puts(0, 2), puts(1, 3), puts(1, 4)}
	for _, row := range []struct {
		of    plan
		first []call
		c     call
		log   string
		told  string
	}{
		{two, nil, tries(from(0)), "0 add c0 1: 0; 0 load c1: 0; 0 load c2: 0; 0 load c3: 0", "not"},
		{two, nil, tries(from(0), from(1)), "0 add c0 1: 0; 0 load c1: 0; 0 load c2: 0; 0 load c3: 0; 0 load c4: 0; 0 load c5: 0; 0 load c6: 0", "not"},
		{two, nil, tries(from(0), from(0)), "0 add c0 1: 0; 0 load c1: 0; 0 load c2: 0; 0 load c3: 0; 0 load c1: 0; 0 load c2: 0; 0 load c3: 0", "not"},
		{two, nil, tries(into(0, 7)), "0 add c0 1: 0; 0 load c1: 0; 0 load c2: 0; 0 cas c1 0 2: 0 ok; 0 store c3 7: 0; 0 store c2 1: 0; 0 add c4 1: 0", "did@0"},
		{two, nil, tries(from(1), into(0, -7)), "0 add c0 1: 0; 0 load c1: 0; 0 load c2: 0; 0 load c3: 0; 0 load c4: 0; 0 load c5: 0; 0 cas c4 0 2: 0 ok; 0 store c6 -7: 0; 0 store c5 1: 0; 0 add c7 1: 0", "did@1"},
		{two, both, tries(from(0), from(1)), "0 add c0 1: 0; 0 load c1: 0; 0 load c2: 1; 0 cas c1 0 1: 0 ok; 0 load c3: 5; 0 store c2 2: 1; 0 add c4 1: 2", "did@0_5"},
		{planOf(2, 1), both, tries(from(0), from(1)), "0 add c0 1: 1; 0 load c1: 0; 0 load c2: 1; 0 cas c1 0 1: 0 ok; 0 load c3: 6; 0 store c2 2: 1; 0 add c4 1: 2", "did@1_6"},
		{planOf(2, 1), both[:1], tries(from(0), from(1)), "0 add c0 1: 1; 0 load c1: 0; 0 load c2: 0; 0 load c3: 0; 0 load c4: 0; 0 load c5: 1; 0 cas c4 0 1: 0 ok; 0 load c6: 5; 0 store c5 2: 1; 0 add c7 1: 1", "did@0_5"},
		{two, full, tries(into(0, 7), into(1, 8)), "0 add c0 1: 0; 0 load c1: 4; 0 load c2: 1; 0 load c3: 4; 0 load c4: 1", "not"},
		{two, []call{closes(0)}, tries(into(0, 7), into(1, 8)), "0 add c0 1: 0; 0 load c1: 1", "refused@0"},
		{planOf(2, 1), []call{closes(0)}, tries(into(0, 7), into(1, 8)), "0 add c0 1: 1; 0 load c1: 0; 0 load c2: 0; 0 cas c1 0 2: 0 ok; 0 store c3 8: 0; 0 store c2 1: 0; 0 add c4 1: 1", "did@1"},
		{two, []call{closes(0)}, tries(from(0), from(1)), "0 add c0 1: 0; 0 load c1: 0; 0 load c2: 0; 0 load c3: 1", "over@0"},
		{planOf(2, 5), []call{closes(0)}, tries(from(0), from(1)), "0 add c0 1: 5; 0 load c1: 0; 0 load c2: 0; 0 load c3: 0; 0 load c4: 0; 0 load c5: 0; 0 load c6: 1", "over@0"},

		{two, nil, picks(into(0, 7)), "0 add c0 1: 0; 0 load c1: 0; 0 load c2: 0; 0 load c3: 0; 0 cas c2 0 2: 0 ok; 0 store c4 7: 0; 0 store c3 1: 0; 0 add c1 1: 0", "did@0"},
		{two, both, picks(from(0), from(1)), "0 add c0 1: 0; 0 load c1: 2; 0 load c2: 0; 0 load c3: 1; 0 cas c2 0 1: 0 ok; 0 load c4: 5; 0 store c3 2: 1; 0 add c1 1: 2", "did@0_5"},
		{planOf(2, -1), both, picks(from(0), from(1)), "0 add c0 1: -1; 0 load c1: 2; 0 load c2: 0; 0 load c3: 1; 0 cas c2 0 1: 0 ok; 0 load c4: 6; 0 store c3 2: 1; 0 add c1 1: 2", "did@1_6"},
		{two, full, picks(into(0, 7), from(1)), "0 add c0 1: 0; 0 load c1: 4; 0 load c2: 4; 0 load c3: 1; 0 load c4: 0; 0 load c5: 1; 0 cas c4 0 1: 0 ok; 0 load c6: 3; 0 store c5 2: 1; 0 add c1 1: 4", "did@1_3"},
		{two, append(slices.Clip(full), closes(0)), picks(into(0, 7), from(1)), "0 add c0 1: 0; 0 load c1: 5; 0 load c2: 5", "refused@0"},
		{two, []call{closes(1)}, picks(from(0), from(1)), "0 add c0 1: 0; 0 load c1: 1; 0 load c2: 0; 0 load c3: 0; 0 load c4: 0; 0 load c5: 0; 0 load c6: 0; 0 load c7: 1", "over@1"},
		{plan{rooms: []int{2}, rung: math.MaxInt64, tickets: []int64{math.MaxInt64}}, nil, picks(into(0, 7)), "0 add c0 1: 9223372036854775807; 0 load c1: 9223372036854775807; 0 load c2: 0; 0 load c3: 0; 0 cas c2 0 2: 0 ok; 0 store c4 7: 0; 0 store c3 1: 0; 0 add c1 1: 9223372036854775807", "did@0"},
		{plan{rooms: []int{2, 2}, tickets: []int64{4, 6}}, both, picks(from(0), from(1)).by(1), "0 add c0 1: 6; 0 load c1: 2; 0 load c2: 0; 0 load c3: 1; 0 cas c2 0 1: 0 ok; 0 load c4: 5; 0 store c3 2: 1; 0 add c1 1: 2", "did@0_5"},
	} {
		w := ours(row.of, row.first...)
		report, told := w.one(row.c)
		if log := aid.Texts(report.Log); log != row.log || told != row.c.String()+":"+row.told || report.End != api.Over || len(w.facts.follows(false)) != 0 {
			t.Errorf("P21.3, P21.4: %v behind %v of %v:\n got %s: %s\nwant %s: %s: %v", row.c, row.first, row.of, told, log, row.told, row.log, w.facts.faults)
		}
	}
}

// TestSleeps: a Select of which no case is ready sleeps at the bell.
func TestSleeps(t *testing.T) {
	full := []call{puts(0, 1), puts(0, 2)}
	for _, row := range []struct {
		of    plan
		first []call
		c     call
		log   string
		left  string
	}{
		{two, nil, picks(from(0)), "0 add c0 1: 0; 0 load c1: 0; 0 load c2: 0; 0 load c3: 0; 0 load c4: 0", "0 park c1 0: 0"},
		{two, nil, picks(from(1), from(0)), "0 add c0 1: 0; 0 load c1: 0; 0 load c2: 0; 0 load c3: 0; 0 load c4: 0; 0 load c5: 0; 0 load c6: 0; 0 load c7: 0", "0 park c1 0: 0"},
		{two, full, picks(into(0, 7), from(1)), "0 add c0 1: 0; 0 load c1: 2; 0 load c2: 4; 0 load c3: 1; 0 load c4: 0; 0 load c5: 0; 0 load c6: 0", "0 park c1 2: 2"},
		{planOf(2, 1), full, picks(into(0, 7), from(1)), "0 add c0 1: 1; 0 load c1: 2; 0 load c2: 0; 0 load c3: 0; 0 load c4: 0; 0 load c5: 4; 0 load c6: 1", "0 park c1 2: 2"},
		{plan{rooms: []int{2}, rung: math.MinInt64, tickets: []int64{math.MinInt64}}, nil, picks(from(0)), "0 add c0 1: -9223372036854775808; 0 load c1: -9223372036854775808; 0 load c2: 0; 0 load c3: 0; 0 load c4: 0", "0 park c1 -9223372036854775808: -9223372036854775808"},
	} {
		w := ours(row.of, row.first...)
		r, told := w.one(row.c)
		if log, left := aid.Texts(r.Log), aid.Texts(r.Left); log != row.log || left != row.left || told != "" || r.End != api.Dead || len(w.facts.follows(true)) != 0 {
			t.Errorf("P21.4: %v behind %v: %s\nnot %s: left %s, not %s: %v", row.c, row.first, log, row.log, left, row.left, w.facts.faults)
		}
	}
}

// TestRows: all short rows of calls, by a thread, as by the words, up to where it sleeps.
func TestRows(t *testing.T) {
	for _, l := range aid.Rows([]call{tries(from(0), from(1)), picks(into(0, 1), from(1)), tries(into(1, 2)), picks(from(1), into(1, 3), into(0, 4)), closes(0), closes(1), takes(0)}, 5) {
		s, want := newPlain(two), []answer{}
		for _, c := range l {
			var a answer
			if s, a = plainly(s, c); a == sleeps {
				break
			}
			want = append(want, a)
		}
		var told []answer
		w := newWorld(made, two)
		r := gate.Run(nil, api.MaxTurns, func(t *gate.Thread) {
			for _, c := range l {
				told = append(told, w.asked(t, c))
			}
		})
		if !slices.Equal(told, want) || (r.End == api.Over) != (len(want) == len(l)) {
			t.Fatalf("P21.3, P21.4: %v: %v, not %v: end %d", l, told, want, r.End)
		}
	}
}

// TestFreeAlone: random calls of one goroutine by threads that do not live, now and then by one that does, held against plain queues.
func TestFreeAlone(t *testing.T) {
	defer inTime()()
	threads := aid.FreeThreads()
	met := map[string]int{}
	for seed := range int64(3000) {
		r := rand.New(rand.NewSource(seed))
		m := &maker{Rand: r, of: somePlan(r)}
		w, s := newWorld(made, m.of), newPlain(m.of)
		for range 60 {
			c := m.call(aid.Some(r.Intn, []int{try, try, try, pick, pick, pick, send, recv, put, take}))
			if r.Intn(60) == 0 {
				c = m.call(shut)
			}
			next, want := plainly(s, c)
			if want == sleeps {
				continue
			}
			s = next
			var a answer
			if r.Intn(4) == 0 {
				gate.Run(nil, api.MaxTurns, func(t *gate.Thread) { a = w.asked(t, c) })
			} else {
				a = w.asked(aid.Some(r.Intn, threads), c)
			}
			if a != want {
				t.Fatalf("P21.2 to P21.4: seed %d: of %v %v answers %v, not %v: %+v", seed, m.of, c, a, want, s)
			}
			met[[]string{"try ", "select ", "send ", "recv ", "put ", "take ", "close "}[c.op]+want.how]++
		}
	}
	for _, what := range []string{"try did", "try not", "try refused", "try over", "try ErrNil", "try ErrNone", "try ErrArg", "select did", "select refused", "select over", "select ErrNil", "select ErrNone", "select ErrArg"} {
		if met[what] < 200 {
			t.Errorf("the calls are no good: %s: %d in %v", what, met[what], met)
		}
	}
}

// TestManyCases: as many as are handed in, whichever is ready.
func TestManyCases(t *testing.T) {
	defer inTime()()
	for _, n := range []int{1, 2, 3, 63, 64, 65, 1000, 1 << 16} {
		for _, ready := range []int{0, n / 3, n / 2, n - 1} {
			w := newWorld(made, two)
			l := slices.Repeat([]arm{from(0)}, n)
			l[ready] = into(1, 9)
			if a := w.asked(nil, tries(l...)); a != sent(ready) {
				t.Errorf("P21.3: of %d: %v, not %d", n, a, ready)
			}
			if a := w.asked(nil, picks(l...)); a != sent(ready) {
				t.Errorf("P21.4: of %d: %v, not %d", n, a, ready)
			}
			if a := w.asked(nil, tries(l...)); a != notYet {
				t.Errorf("P21.3: of %d: %v, as none is ready", n, a)
			}
			w.pipes[0].Close(nil)
			first := 3 % n // the ticket is 4
			if l[first].send {
				first = (first + 1) % n
			}
			want := overBy(first)
			if n == 1 {
				want = notYet
			}
			if a := w.asked(nil, tries(l...)); a != want {
				t.Errorf("P21.3: of %d: %v, not %v", n, a, want)
			}
		}
	}
}

// TestFair: of n calls one behind the other each case that is ready all the while is taken; where all are they are taken in turns.
func TestFair(t *testing.T) {
	defer inTime()()
	for n := 1; n <= 7; n++ {
		for ready := range 1 << n {
			for _, ticket := range []int64{0, 1, 6, 1000003, -1, -8, math.MinInt64, math.MaxInt64 - 20} {
				fair(t, n, ready, ticket)
			}
		}
	}
}

// fair: of n cases those are ready all the while of which the bit is set.
func fair(t *testing.T, n, ready int, ticket int64) {
	t.Helper()
	bell := cell.New(0)
	c, empty, ended := choice.From(bell, ticket), newPipe(2, bell), newPipe(2, bell)
	ended.Close(nil)
	var l []choice.Case
	for i := range n {
		x := choice.Case{Pipe: empty}
		if ready>>i&1 != 0 {
			x.Pipe, x.Send = ended, i%2 == 0
		}
		l = append(l, x)
	}
	by, taken := c.Select, make([]int, n)
	if ready == 0 {
		by = c.Try
	}
	for k := range 2 * n {
		i, _, _, _ := by(nil, l...)
		want, first := -1, around(ticket+int64(k), n)
		for j := n - 1; j >= 0; j-- {
			if at := (first + j) % n; ready>>at&1 != 0 {
				want = at
			}
		}
		if i != want {
			t.Fatalf("what follows: of %d, ready %b: behind the ticket %d: %d, not %d", n, ready, ticket+int64(k), i, want)
		}
		if i >= 0 {
			taken[i]++
		}
	}
	for i, x := range taken {
		if least := 2 * (ready >> i & 1); x < least || least == 0 && x > 0 || ready == 1<<n-1 && x != 2 {
			t.Errorf("what follows: of %d, ready %b: the case %d is taken %d times", n, ready, i, x)
		}
	}
}

// TestTicketsGoRound: from which case on a look goes, at the ends of int64, and below 0; and that it looks at each case once.
func TestTicketsGoRound(t *testing.T) {
	defer inTime()()
	for _, row := range []struct {
		ticket int64
		n      int
		want   []int
	}{
		{math.MaxInt64 - 1, 1, []int{0, 0, 0, 0}},
		{math.MaxInt64 - 1, 2, []int{0, 1, 0, 1, 0}},
		{math.MaxInt64 - 1, 3, []int{0, 1, 1, 2, 0}},
		{math.MaxInt64 - 1, 4, []int{2, 3, 0, 1, 2}},
		{math.MaxInt64 - 1, 5, []int{1, 2, 2, 3, 4}},
		{math.MaxInt64 - 1, 7, []int{6, 0, 6, 0, 1}},
		{-4, 1, []int{0, 0, 0, 0, 0, 0}},
		{-4, 2, []int{0, 1, 0, 1, 0, 1}},
		{-4, 3, []int{2, 0, 1, 2, 0, 1}},
		{-4, 5, []int{1, 2, 3, 4, 0, 1}},
		{1<<32 - 1, 3, []int{0, 1, 2}},
		{0, 3, []int{0, 1, 2, 0, 1, 2, 0}},
	} {
		bell := cell.New(0)
		c, ended := choice.From(bell, row.ticket), newPipe(2, bell)
		ended.Close(nil)
		var firsts, looks []int
		for range row.want {
			i, _, _, _ := c.Select(nil, slices.Repeat([]choice.Case{{Pipe: ended}}, row.n)...)
			firsts = append(firsts, i)
		}
		if !slices.Equal(firsts, row.want) {
			t.Errorf("P21.3, P21.4: of %d from the ticket %d on: %v, not %v", row.n, row.ticket, firsts, row.want)
		}
		for k, first := range row.want {
			for looked := range row.n { // only one case is ready: so many are looked at ahead of it
				c, in := choice.From(bell, row.ticket+int64(k)), newPipe(2, bell)
				l := slices.Repeat([]choice.Case{{Pipe: newPipe(2, bell)}}, row.n)
				l[(first+looked)%row.n] = choice.Case{Pipe: in, Send: true}
				r := gate.Run(nil, 99, func(t *gate.Thread) { c.Select(t, l...) })
				looks = append(looks, r.Turns-8-3*looked)
			}
		}
		if slices.ContainsFunc(looks, func(more int) bool { return more != 0 }) {
			t.Errorf("P21.4: of %d from the ticket %d on: so many accesses too much: %v", row.n, row.ticket, looks)
		}
	}
}
