package prio_test

import (
	"math"
	"math/bits"
	"math/rand"
	"slices"
	"testing"

	"treadle/aid"
	"treadle/api"
	"treadle/gate"
	"treadle/prio"
)

// TestExamples: the chapter's table, by each thread that comes back from its accesses.
func TestExamples(t *testing.T) {
	for _, f := range aid.By(func(who string, th *gate.Thread) { examples(t, who, th) }) {
		t.Errorf("R1: %s", f)
	}
}

func examples(t *testing.T, who string, th *gate.Thread) {
	for _, m := range []size{{0, 2}, {9, 2}, {1, 3}} {
		if p, e := prio.New(m.levels, m.room); p != nil || e != api.ErrArg {
			t.Errorf("P18.1: New(%d, %d): %v, %d", m.levels, m.room, p, e)
		}
	}
	ages := []call{puts(0, 7)}
	wants := []answer{okay}
	for i := 1; i <= 64; i++ {
		ages, wants = append(ages, puts(1, 8), takes), append(wants, okay, took(1, 8))
	}
	wants[len(wants)-1] = took(0, 7)
	for _, row := range []struct {
		calls []call
		want  []answer
	}{
		{[]call{puts(0, 7), puts(1, 8), puts(0, 9), puts(0, 5), puts(2, 5), takes, takes, takes, takes},
			[]answer{okay, okay, okay, full, noLevel, took(1, 8), took(0, 7), took(0, 9), none}},
		{ages, wants},
	} {
		if got := all(size{2, 2}.prio(), th, row.calls...); !slices.Equal(got, row.want) {
			t.Errorf("P18.2, P18.3: by %s: %v: %v, not %v", who, row.calls, got, row.want)
		}
	}
}

// TestHowMany: of how many levels there are Prios, and of which room: from 1 to MaxLevels, the powers of two from 2 to MaxRing.
func TestHowMany(t *testing.T) {
	for _, levels := range []int{math.MinInt, -1 << 32, -8, -1, 0, 1, 2, 3, 4, 5, 6, 7, 8, 9, 10, 16, 64, 1 << 32, 1<<32 + 1, math.MaxInt} {
		for _, room := range aid.Sizes() {
			want := api.ErrArg
			if levels >= 1 && levels <= 8 && room >= 2 && room <= 4096 && bits.OnesCount(uint(room)) == 1 {
				want = api.OK
			}
			p, e := prio.New(levels, room)
			if e != want || (p != nil) != (e == api.OK) || do(p, nil, takes) != none {
				t.Fatalf("P18.1: New(%d, %d): %v, %d", levels, room, p != nil, e)
			}
		}
	}
}

// TestEachSize: of each size each level holds so many values, and not one more, whatever the others hold, again and again.
func TestEachSize(t *testing.T) {
	for levels := 1; levels <= 8; levels++ {
		for room := 2; room <= 4096; room *= 2 {
			m := size{levels, room}
			p, s := m.prio(), m.plain()
			for _, mixed := range []bool{true, false, true} {
				for _, l := range [][]call{m.empties(), m.fills(mixed)} {
					if got, want := all(p, nil, l...), s.answers(l...); !slices.Equal(got, want) {
						t.Fatalf("P18.1 to P18.3: of %v: %v, not %v", m, got, want)
					}
				}
			}
		}
	}
}

// TestNew: what the cells hold at first, and all that becomes of them, as all is taken, put, and taken again, in several runs.
func TestNew(t *testing.T) {
	for _, m := range []size{{1, 2}, {2, 2}, {3, 4}, {4, 2}, {5, 8}, {6, 16}, {7, 4}, {8, 64}, {2, 1024}, {1, 4096}} {
		x, held := m.prio(), m.held()
		for l := range slices.Chunk(m.goesAround(), 2000) {
			w := (&start{of: m, held: held}).worldOf(x, [][]call{l})
			r := gate.Run(nil, api.MaxTurns, w.threads.Bodies()...)
			ends, faults := w.threads.Ends(r, held)
			if len(faults) != 0 || r.End != api.Over {
				t.Fatalf("P18.1 to P18.3: of %v: end %d: %v", m, r.End, faults)
			}
			held = ends
		}
	}
}

// TestSteps: of each call, where nobody else goes between them.
func TestSteps(t *testing.T) {
	for _, row := range []struct {
		of    size
		first []call // free, ahead of it
		c     call
		log   string
		want  answer
	}{
		{size{1, 2}, nil, puts(0, 7), "0 load c0: 0; 0 load c1: 0; 0 cas c0 0 1: 0 ok; 0 add c2 1: 0; 0 store c3 1: 0; 0 store c4 7: 0; 0 store c1 1: 0", okay},
		{size{1, 2}, []call{puts(0, 7)}, puts(0, 8), "0 load c0: 1; 0 load c1: 1; 0 cas c0 1 2: 1 ok; 0 add c2 1: 1; 0 store c3 2: 0; 0 store c4 8: 0; 0 store c1 2: 1", okay},
		{size{1, 2}, []call{puts(0, 7), puts(0, 8)}, puts(0, 9), "0 load c0: 2; 0 load c1: 1", full},
		{size{1, 2}, []call{puts(0, 7), takes}, puts(0, 8), "0 load c0: 1; 0 load c1: 1; 0 cas c0 1 2: 1 ok; 0 add c2 1: 1; 0 store c3 2: 0; 0 store c4 8: 0; 0 store c1 2: 1", okay},
		{size{1, 2}, []call{puts(0, 7), puts(0, 8), takes}, puts(0, 9), "0 load c0: 2; 0 load c1: 2; 0 cas c0 2 3: 2 ok; 0 add c2 1: 2; 0 store c3 3: 1; 0 store c4 9: 7; 0 store c1 3: 2", okay},
		{size{1, 4}, []call{puts(0, 7), puts(0, 8), takes, takes}, puts(0, math.MinInt64), "0 load c0: 2; 0 load c1: 2; 0 cas c0 2 3: 2 ok; 0 add c2 1: 2; 0 store c3 3: 0; 0 store c4 -9223372036854775808: 0; 0 store c1 3: 2", okay},
		{size{1, 2}, nil, takes, "0 load c0: 0; 0 load c1: 0", none},
		{size{1, 2}, []call{puts(0, 7)}, takes, "0 load c0: 0; 0 load c1: 1; 0 load c2: 1; 0 cas c0 0 1: 0 ok; 0 load c3: 7; 0 store c1 2: 1", took(0, 7)},
		{size{1, 4}, []call{puts(0, 7), puts(0, 8), takes}, takes, "0 load c0: 1; 0 load c1: 2; 0 load c2: 2; 0 cas c0 1 2: 1 ok; 0 load c3: 8; 0 store c1 5: 2", took(0, 8)},
		{size{1, 2}, []call{puts(0, 7), takes}, takes, "0 load c0: 1; 0 load c1: 1", none},
		{size{1, 4096}, []call{puts(0, 7)}, takes, "0 load c0: 0; 0 load c1: 1; 0 load c2: 1; 0 cas c0 0 1: 0 ok; 0 load c3: 7; 0 store c1 4096: 1", took(0, 7)},
		{size{2, 2}, nil, puts(1, 7), "0 load c0: 0; 0 load c1: 0; 0 cas c0 0 1: 0 ok; 0 add c2 1: 0; 0 store c3 1: 0; 0 store c4 7: 0; 0 store c1 1: 0", okay},
		{size{2, 2}, []call{puts(0, 7), puts(0, 8)}, puts(1, 9), "0 load c0: 0; 0 load c1: 0; 0 cas c0 0 1: 0 ok; 0 add c2 1: 2; 0 store c3 3: 0; 0 store c4 9: 0; 0 store c1 1: 0", okay},
		{size{2, 2}, []call{puts(1, 7), puts(1, 8)}, puts(1, 9), "0 load c0: 2; 0 load c1: 1", full},
		{size{2, 2}, nil, takes, "0 load c0: 0; 0 load c1: 0; 0 load c2: 0; 0 load c3: 0", none},
		{size{2, 2}, []call{puts(0, 7)}, takes, "0 load c0: 0; 0 load c1: 0; 0 load c2: 0; 0 load c3: 1; 0 load c4: 1; 0 cas c2 0 1: 0 ok; 0 load c5: 7; 0 store c3 2: 1", took(0, 7)},
		{size{2, 2}, []call{puts(1, 7)}, takes, "0 load c0: 0; 0 load c1: 1; 0 load c2: 1; 0 load c3: 0; 0 load c4: 0; 0 cas c0 0 1: 0 ok; 0 load c5: 7; 0 store c1 2: 1", took(1, 7)},
		{size{2, 2}, []call{puts(0, 7), puts(1, 8)}, takes, "0 load c0: 0; 0 load c1: 1; 0 load c2: 2; 0 load c3: 0; 0 load c4: 1; 0 load c5: 1; 0 cas c0 0 1: 0 ok; 0 load c6: 8; 0 store c1 2: 1", took(1, 8)},
		{size{2, 2}, ages(62), takes, "0 load c0: 62; 0 load c1: 63; 0 load c2: 64; 0 load c3: 0; 0 load c4: 1; 0 load c5: 1; 0 cas c0 62 63: 62 ok; 0 load c6: 9; 0 store c1 64: 63", took(1, 9)},
		{size{2, 2}, ages(63), takes, "0 load c0: 63; 0 load c1: 64; 0 load c2: 65; 0 load c3: 0; 0 load c4: 1; 0 load c5: 1; 0 cas c3 0 1: 0 ok; 0 load c6: 7; 0 store c4 2: 1", took(0, 7)},
		{size{3, 2}, []call{puts(0, 7), puts(2, 8)}, takes, "0 load c0: 0; 0 load c1: 1; 0 load c2: 2; 0 load c3: 0; 0 load c4: 0; 0 load c5: 0; 0 load c6: 1; 0 load c7: 1; 0 cas c0 0 1: 0 ok; 0 load c8: 8; 0 store c1 2: 1", took(2, 8)},
		{size{8, 2}, nil, takes, "0 load c0: 0; 0 load c1: 0; 0 load c2: 0; 0 load c3: 0; 0 load c4: 0; 0 load c5: 0; 0 load c6: 0; 0 load c7: 0; 0 load c8: 0; 0 load c9: 0; 0 load c10: 0; 0 load c11: 0; 0 load c12: 0; 0 load c13: 0; 0 load c14: 0; 0 load c15: 0", none},
		{size{8, 4}, []call{puts(3, 7), puts(5, 8), puts(1, 9)}, takes, "0 load c0: 0; 0 load c1: 0; 0 load c2: 0; 0 load c3: 0; 0 load c4: 0; 0 load c5: 1; 0 load c6: 2; 0 load c7: 0; 0 load c8: 0; 0 load c9: 0; 0 load c10: 1; 0 load c11: 1; 0 load c12: 0; 0 load c13: 0; 0 load c14: 0; 0 load c15: 1; 0 load c16: 3; 0 load c17: 0; 0 load c18: 0; 0 cas c4 0 1: 0 ok; 0 load c19: 8; 0 store c5 4: 1", took(5, 8)},
	} {
		p := row.of.filled(row.first...)
		report, got := alone(p, row.c)
		if s := aid.Texts(report.Log); s != row.log || got[0] != row.want || report.End != api.Over {
			t.Errorf("P18.2, P18.3: %+v behind %d calls of %v:\n got %v: %s\nwant %v: %s", row.c, len(row.first), row.of, got[0], s, row.want, row.log)
		}
	}
}

// ages: calls behind which 7 is there on the level 0, with the ticket 1, and 9 on the level 1, with the ticket 2 and so many more.
func ages(more int) []call {
	l := []call{puts(0, 7)}
	for range more {
		l = append(l, puts(1, 8), takes)
	}
	return append(l, puts(1, 9))
}

// TestAges: what waits on a level while others are put on a higher one, and taken, comes behind 64 of them a level, less one; and so again, however many tickets are drawn.
func TestAges(t *testing.T) {
	for levels := 2; levels <= 8; levels++ {
		p := size{levels, 2}.prio()
		for high := range levels {
			for low := range high {
				do(p, nil, puts(low, 7))
				for i := 1; i <= 64*(high-low); i++ {
					want := took(high, 8)
					if i == 64*(high-low) {
						want = took(low, 7)
					}
					if got := all(p, nil, puts(high, 8), takes); !slices.Equal(got, []answer{okay, want}) {
						t.Fatalf("P18.3, W5: of %d levels: %d behind %d: the Take number %d: %v", levels, low, high, i, got)
					}
				}
				if got := all(p, nil, takes, takes); !slices.Equal(got, []answer{took(high, 8), none}) {
					t.Fatalf("P18.3: of %d levels: %d behind %d: at the end %v", levels, low, high, got)
				}
			}
		}
	}
}

// TestTies: of what is worth the same on several levels that goes first which has the least ticket; what is worth one more goes ahead of it.
func TestTies(t *testing.T) {
	for which := range 1 << 8 { // of the levels those on which something is there
		for early := range 2 { // what is on the highest of them is put so many tickets early
			p, drawn := size{8, 2}.prio(), 0
			var want []answer
			for n := range 8 {
				if which>>n&1 == 0 {
					continue
				}
				ticket := 64*n + 1
				if which>>n == 1 {
					ticket -= early
				}
				for ; drawn < ticket-1; drawn++ {
					if got := all(p, nil, puts(7, -1), takes); got[1] != took(7, -1) {
						t.Fatalf("P18.3: of %b: at the ticket %d: %v", which, drawn, got)
					}
				}
				do(p, nil, puts(n, int64(n)))
				want = append(want, took(n, int64(n)))
				drawn++
			}
			if n := len(want) - 1; early == 1 && n > 0 {
				want = append(want[n:], want[:n]...)
			}
			if got := all(p, nil, size{8, 2}.empties()[:len(want)+1]...); !slices.Equal(got, append(want, none)) {
				t.Fatalf("P18.3: of %b, early by %d: %v, not %v", which, early, got, want)
			}
		}
	}
}

// TestManyRounds: however often the places are gone around, and tickets drawn, the levels age as at first.
func TestManyRounds(t *testing.T) {
	p := size{2, 2}.prio()
	for i := range int64(1 << 20) {
		if got := all(p, nil, puts(int(i%2), i), takes); got[0] != okay || got[1] != took(int(i%2), i) {
			t.Fatalf("P18.2, P18.3: the round %d: %v", i, got)
		}
	}
	if got, want := all(p, nil, append(ages(62), takes, takes)...), (size{2, 2}).plain().answers(append(ages(62), takes, takes)...); !slices.Equal(got, want) {
		t.Errorf("P18.3: behind many rounds: %v, not %v", got, want)
	}
}

// TestFreeAlone: random calls of one goroutine by threads that do not live, now and then by one that does, held against the chapter's words.
func TestFreeAlone(t *testing.T) {
	threads := aid.FreeThreads()
	met := map[string]int{}
	for seed := range int64(1500) {
		r := rand.New(rand.NewSource(seed))
		m := size{1 + r.Intn(8), 2 << r.Intn(5)}
		p, s := m.prio(), m.plain()
		mostly := aid.Some(r.Intn, []int{m.levels - 1, r.Intn(m.levels)}) // on this level is put: so it is full now and then, and the others age
		for i := range 400 {
			c := takes
			if r.Intn(16) < []int{12, 9, 5}[i/50%3] {
				c = puts(aid.Some(r.Intn, []int{mostly, mostly, mostly, r.Intn(m.levels)}), aid.Some(r.Intn, aid.Values()))
			}
			if c.op == put && r.Intn(30) == 0 {
				c.level = aid.Some(r.Intn, wrongLevels(m.levels))
			}
			highest := s.highest()
			want := s.does(c)
			var got answer
			if r.Intn(4) == 0 {
				_, l := alone(p, c)
				got = l[0]
			} else {
				got = do(p, aid.Some(r.Intn, threads), c)
			}
			if got != want {
				t.Fatalf("P18.2, P18.3: seed %d: of %v %+v answers %v, not %v: %+v", seed, m, c, got, want, s)
			}
			met[kind(c, want)]++
			met["aged"] += aid.Digit(want.ok && want.level < highest)
		}
		if l := m.empties(); !slices.Equal(all(p, nil, l...), s.answers(l...)) {
			t.Fatalf("P18.3: seed %d: of %v at the end there is not what was put", seed, m)
		}
	}
	for _, what := range []string{"put", "full", "no level", "took", "none", "aged"} {
		if met[what] < 1500 {
			t.Errorf("the calls are no good: %v", met)
		}
	}
}

// kind: of a call, by its answer.
func kind(c call, a answer) string {
	switch {
	case a == full:
		return "full"
	case a == noLevel:
		return "no level"
	case c.op == put:
		return "put"
	case a == none:
		return "none"
	}
	return "took"
}

// wrongLevels: some that are none of so many.
func wrongLevels(levels int) []int {
	return []int{-1, levels, levels + 1, 8, 9, -levels, math.MaxInt, math.MinInt, math.MinInt + 1, 1 << 32, 1<<32 + levels - 1, -1 << 32, 1 << 62}
}

// TestWrongLevels: a Put on a level that there is not, whatever is there: no access, and nothing is changed.
func TestWrongLevels(t *testing.T) {
	for levels := 1; levels <= 8; levels++ {
		m := size{levels, 2}
		for what, first := range map[string][]call{"nothing is there": nil, "all is full": m.fills(true), "some is there": {puts(levels-1, 7), puts(0, 8), takes}} {
			p, s := m.filled(first...), m.plain()
			s.answers(first...)
			for _, f := range aid.Idle(func(who string, th *gate.Thread) {
				for _, level := range wrongLevels(levels) {
					if got := do(p, th, puts(level, 5)); got != noLevel {
						t.Errorf("P18.2: %s, by %s: on %d of %d levels: %v", what, who, level, levels, got)
					}
				}
			}) {
				t.Errorf("P18.2: %s: %s", what, f)
			}
			if l := m.goesAround(); !slices.Equal(all(p, nil, l...), s.answers(l...)) {
				t.Errorf("R2: %s: of %d levels: something is changed", what, levels)
			}
		}
	}
}

// TestNone: Prios that are none, by threads of every kind: no access.
func TestNone(t *testing.T) {
	var null *prio.Prio
	asks := func(who string, th *gate.Thread) {
		for what, p := range map[string]*prio.Prio{"nil": null, "made by no call": {}, "made by new": new(prio.Prio)} {
			for _, level := range append(wrongLevels(1), 0, 1, 7) { // ErrNil ahead of ErrArg
				for range 3 { // also behind a Put that was refused
					if got := all(p, th, puts(level, 5), takes); !slices.Equal(got, []answer{{e: api.ErrNil}, none}) {
						t.Errorf("R3: %s, by %s: Put on %d, Take: %v", what, who, level, got)
					}
				}
			}
		}
	}
	for _, f := range aid.Idle(asks) {
		t.Errorf("R3: %s", f)
	}
}

// TestNotLiving: a call that is handed a thread that does not live makes no access of the thread in whose goroutine it is.
func TestNotLiving(t *testing.T) {
	for what, th := range aid.NotLiving() {
		p := size{2, 2}.prio()
		var got []answer
		r := gate.Run(nil, 9, func(*gate.Thread) {
			got = all(p, th, puts(0, 5), puts(1, 6), puts(1, 7), puts(1, 8), takes, takes, takes, takes, puts(0, 9))
		})
		if !slices.Equal(got, []answer{okay, okay, okay, full, took(1, 6), took(1, 7), took(0, 5), none, okay}) || len(r.Log) != 0 || r.End != api.Over {
			t.Errorf("P18.2, P18.3: %s: %v, %+v", what, got, r)
		}
	}
}

// TestRefused: a Put on a full level, a Take where nothing is there change nothing, however often: no ticket is drawn.
func TestRefused(t *testing.T) {
	for _, m := range []size{{1, 2}, {2, 4}, {8, 2}, {3, 64}, {2, 4096}} {
		p, s := m.prio(), m.plain()
		refused := func(c call, want answer) {
			t.Helper()
			r, was := alone(p, c)
			for range m.room + 70 {
				if got := do(p, nil, c); got != want {
					t.Fatalf("R2: of %v: %+v: %v", m, c, got)
				}
			}
			again, is := alone(p, c)
			if was[0] != want || is[0] != want || !aid.Same(r, again) {
				t.Errorf("R2: of %v: %+v: %+v, behind many %+v", m, c, r, again)
			}
		}
		for range 3 {
			refused(takes, none)
			for level := range m.levels {
				for i := range m.room {
					if got, want := do(p, nil, puts(level, int64(i))), s.does(puts(level, int64(i))); got != want {
						t.Fatalf("P18.2: of %v: the Put number %d on %d: %v", m, i, level, got)
					}
				}
				refused(puts(level, -5), full)
			}
			if l := m.empties(); !slices.Equal(all(p, nil, l...), s.answers(l...)) {
				t.Fatalf("P18.3, R2: of %v: what is there is not what was put", m)
			}
		}
	}
}

// TestEachIsItsOwn: what is done to one Prio is not seen in others.
func TestEachIsItsOwn(t *testing.T) {
	m := size{2, 4}
	x, y := m.prio(), m.prio()
	all(x, nil, puts(1, 1), puts(0, 2), puts(1, 3), takes)
	for what, z := range map[string]*prio.Prio{"made ahead": y, "made behind": m.prio()} {
		w := m.world(z, [][]call{m.goesAround()})
		if w.run(t, nil, api.MaxTurns); t.Failed() || !slices.Equal(w.threads.Got[0], m.plain().answers(m.goesAround()...)) {
			t.Errorf("P18.1: %s: %v", what, w.threads.Got[0])
		}
	}
	if got := all(x, nil, takes, takes, takes); !slices.Equal(got, []answer{took(1, 3), took(0, 2), none}) {
		t.Errorf("P18.1: %v", got)
	}
}
