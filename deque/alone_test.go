package deque_test

import (
	"math"
	"math/rand"
	"slices"
	"testing"

	"treadle/aid"
	"treadle/api"
	"treadle/deque"
	"treadle/gate"
)

// TestExamples: the chapter's table, by each thread that does not live, and by one that does.
func TestExamples(t *testing.T) {
	for what, th := range aid.NotLiving() {
		examples(t, what, th)
	}
	gate.Run(nil, 999, func(th *gate.Thread) { examples(t, "one that lives", th) })
}

func examples(t *testing.T, what string, th *gate.Thread) {
	for _, row := range []struct {
		of    size
		calls []call
		want  []answer
	}{
		{size{2, 0}, []call{pops, steals, pushes(7), pushes(8), pushes(9), lengths, steals, pushes(9), pops, pops, pops},
			[]answer{no, none, okay, okay, full, long(2), stolen(7), okay, popped(9), popped(8), no}},
		{size{2, math.MaxInt64}, []call{pushes(7), pushes(8), steals, pops}, []answer{okay, okay, stolen(7), popped(8)}},
	} {
		if got := all(row.of.deque(), th, row.calls...); !slices.Equal(got, row.want) {
			t.Errorf("P7.2 to P7.5: by %s: %v of %v: %v, not %v", what, row.calls, row.of, got, row.want)
		}
	}
}

// TestNumbers: of the ways in which a Steal ends.
func TestNumbers(t *testing.T) {
	if l := []int8{deque.None, deque.Got, deque.Lost}; !slices.Equal(l, []int8{0, 1, 2}) {
		t.Errorf("P7.4: %v", l)
	}
}

// TestHowMany: of which sizes there are deques: the powers of two from 2 to MaxRing, from whatever position.
func TestHowMany(t *testing.T) {
	faults := aid.Rooms(func(n int, from int64) (bool, api.Errno) {
		d, e := deque.New(n, from)
		if n := d.Len(nil); n != 0 {
			t.Errorf("P7.1: at first there are %d", n)
		}
		return d != nil, e
	})
	for _, f := range faults {
		t.Errorf("P7.1: %s", f)
	}
}

// TestNew: what the cells hold at first, and that all of it goes round: of each size, from each position.
func TestNew(t *testing.T) {
	for n := 2; n <= api.MaxRing; n *= 2 {
		l := aid.Positions()
		if n > 64 {
			l = []int64{-7, math.MaxInt64 - 7}
		}
		for _, from := range l {
			of, calls := size{n, from}, goesAround(n)
			w := newWorld(of, nil, [][]call{calls})
			w.owned = false // what follows would take long
			w.run(t, nil, api.MaxTurns)
			if got := w.threads.Got[0]; !asPlain(of.plain(), calls, got) {
				t.Errorf("P7.1 to P7.5: of %v: %v", of, got)
			}
			if t.Failed() {
				t.Fatalf("of %v", of)
			}
		}
	}
}

// TestSteps: of each call, where nobody else goes between them.
func TestSteps(t *testing.T) {
	one, two, both := []call{pushes(7)}, []call{pushes(7), pushes(8)}, []call{pushes(7), pushes(8), steals}
	for _, row := range []struct {
		of    size
		first []call // free, ahead of it
		c     call
		log   string
		want  answer
	}{
		{size{2, 0}, nil, pushes(7), "0 load c0: 0; 0 load c1: 0; 0 store c2 7: 0; 0 store c0 1: 0", okay},
		{size{2, 0}, one, pushes(9), "0 load c0: 1; 0 load c1: 0; 0 store c2 9: 0; 0 store c0 2: 1", okay},
		{size{2, 0}, two, pushes(9), "0 load c0: 2; 0 load c1: 0", full},
		{size{2, 0}, both, pushes(9), "0 load c0: 2; 0 load c1: 1; 0 store c2 9: 7; 0 store c0 3: 2", okay},
		{size{2, 0}, []call{pushes(7), pops}, pushes(9), "0 load c0: 1; 0 load c1: 1; 0 store c2 9: 0; 0 store c0 2: 1", okay},
		{size{2, 0}, []call{pushes(7), pushes(8), pops}, pushes(9), "0 load c0: 1; 0 load c1: 0; 0 store c2 9: 8; 0 store c0 2: 1", okay},
		{size{2, 0}, []call{pushes(7), pushes(8), steals, pushes(9)}, pushes(1), "0 load c0: 3; 0 load c1: 1", full},
		{size{2, 0}, nil, pops, "0 load c0: 0; 0 store c0 -1: 0; 0 load c1: 0; 0 store c0 0: -1", no},
		{size{2, 0}, one, pops, "0 load c0: 1; 0 store c0 0: 1; 0 load c1: 0; 0 load c2: 7; 0 cas c1 0 1: 0 ok; 0 store c0 1: 0", popped(7)},
		{size{2, 0}, two, pops, "0 load c0: 2; 0 store c0 1: 2; 0 load c1: 0; 0 load c2: 8", popped(8)},
		{size{2, 0}, both, pops, "0 load c0: 2; 0 store c0 1: 2; 0 load c1: 1; 0 load c2: 8; 0 cas c1 1 2: 1 ok; 0 store c0 2: 1", popped(8)},
		{size{2, 0}, []call{pushes(7), pops}, pops, "0 load c0: 1; 0 store c0 0: 1; 0 load c1: 1; 0 store c0 1: 0", no},
		{size{2, 0}, nil, steals, "0 load c0: 0; 0 load c1: 0", none},
		{size{2, 0}, one, steals, "0 load c0: 0; 0 load c1: 1; 0 load c2: 7; 0 cas c0 0 1: 0 ok", stolen(7)},
		{size{2, 0}, two, steals, "0 load c0: 0; 0 load c1: 2; 0 load c2: 7; 0 cas c0 0 1: 0 ok", stolen(7)},
		{size{2, 0}, both, steals, "0 load c0: 1; 0 load c1: 2; 0 load c2: 8; 0 cas c0 1 2: 1 ok", stolen(8)},
		{size{2, 0}, []call{pushes(7), pops}, steals, "0 load c0: 1; 0 load c1: 1", none},
		{size{2, 0}, nil, lengths, "0 load c0: 0; 0 load c1: 0", long(0)},
		{size{2, 0}, both, lengths, "0 load c0: 1; 0 load c1: 2", long(1)},
		{size{4, 7}, two, lengths, "0 load c0: 7; 0 load c1: 9", long(2)},
		{size{4, 7}, nil, pushes(math.MinInt64), "0 load c0: 7; 0 load c1: 7; 0 store c2 -9223372036854775808: 0; 0 store c0 8: 7", okay},
		{size{4, 7}, []call{pushes(1), pushes(2), pushes(3)}, pushes(4), "0 load c0: 10; 0 load c1: 7; 0 store c2 4: 0; 0 store c0 11: 10", okay},
		{size{4, 7}, []call{pushes(1), pushes(2), pushes(3), pushes(4)}, pushes(5), "0 load c0: 11; 0 load c1: 7", full},
		{size{8, -3}, nil, pushes(0), "0 load c0: -3; 0 load c1: -3; 0 store c2 0: 0; 0 store c0 -2: -3", okay},
		{size{8, -3}, []call{pushes(0)}, pops, "0 load c0: -2; 0 store c0 -3: -2; 0 load c1: -3; 0 load c2: 0; 0 cas c1 -3 -2: -3 ok; 0 store c0 -2: -3", popped(0)},
		{size{8, -3}, []call{pushes(0)}, steals, "0 load c0: -3; 0 load c1: -2; 0 load c2: 0; 0 cas c0 -3 -2: -3 ok", stolen(0)},
		{size{8, -3}, nil, steals, "0 load c0: -3; 0 load c1: -3", none},
		{size{2, math.MaxInt64}, nil, pushes(7), "0 load c0: 9223372036854775807; 0 load c1: 9223372036854775807; 0 store c2 7: 0; 0 store c0 -9223372036854775808: 9223372036854775807", okay},
		{size{2, math.MaxInt64}, one, pushes(8), "0 load c0: -9223372036854775808; 0 load c1: 9223372036854775807; 0 store c2 8: 0; 0 store c0 -9223372036854775807: -9223372036854775808", okay},
		{size{2, math.MaxInt64}, two, pushes(9), "0 load c0: -9223372036854775807; 0 load c1: 9223372036854775807", full},
		{size{2, math.MaxInt64}, one, pops, "0 load c0: -9223372036854775808; 0 store c0 9223372036854775807: -9223372036854775808; 0 load c1: 9223372036854775807; 0 load c2: 7; 0 cas c1 9223372036854775807 -9223372036854775808: 9223372036854775807 ok; 0 store c0 -9223372036854775808: 9223372036854775807", popped(7)},
		{size{2, math.MaxInt64}, two, pops, "0 load c0: -9223372036854775807; 0 store c0 -9223372036854775808: -9223372036854775807; 0 load c1: 9223372036854775807; 0 load c2: 8", popped(8)},
		{size{2, math.MaxInt64}, one, steals, "0 load c0: 9223372036854775807; 0 load c1: -9223372036854775808; 0 load c2: 7; 0 cas c0 9223372036854775807 -9223372036854775808: 9223372036854775807 ok", stolen(7)},
		{size{2, math.MaxInt64}, two, lengths, "0 load c0: 9223372036854775807; 0 load c1: -9223372036854775807", long(2)},
		{size{2, math.MaxInt64}, []call{pushes(7), steals}, steals, "0 load c0: -9223372036854775808; 0 load c1: -9223372036854775808", none},
		{size{2, math.MinInt64}, nil, pops, "0 load c0: -9223372036854775808; 0 store c0 9223372036854775807: -9223372036854775808; 0 load c1: -9223372036854775808; 0 store c0 -9223372036854775808: 9223372036854775807", no},
		{size{4096, math.MinInt64}, nil, pushes(1), "0 load c0: -9223372036854775808; 0 load c1: -9223372036854775808; 0 store c2 1: 0; 0 store c0 -9223372036854775807: -9223372036854775808", okay},
	} {
		d := row.of.deque()
		all(d, nil, row.first...)
		report, got := alone(d, row.c)
		if s := aid.Texts(report.Log); s != row.log || got[0] != row.want || report.End != api.Over {
			t.Errorf("P7.2 to P7.5: %+v behind %+v of %v:\n got %v: %s\nwant %v: %s", row.c, row.first, row.of, got[0], s, row.want, row.log)
		}
	}
}

// TestFreeAlone: random calls of one goroutine by threads that do not live, now and then by one that does, held against a plain deque.
func TestFreeAlone(t *testing.T) {
	threads := aid.FreeThreads()
	met := map[string]int{}
	for seed := range int64(2000) {
		r := rand.New(rand.NewSource(seed))
		of := size{2 << r.Intn(4), aid.Some(r.Intn, aid.Positions())}
		d, s := of.deque(), of.plain()
		for i := range 120 {
			c := call{op: aid.Some(r.Intn, []int{push, push, pop, pop, steal, length}), v: aid.Some(r.Intn, aid.Values())}
			if i/20%2 == 0 { // for a while more are pushed, then more are got
				c.op = aid.Some(r.Intn, []int{push, push, push, push, pop, steal, length})
			}
			var got, want answer
			s, want = does(s, c)
			if r.Intn(4) == 0 {
				_, l := alone(d, c)
				got = l[0]
			} else {
				got = do(d, aid.Some(r.Intn, threads), c)
			}
			if got != want {
				t.Fatalf("P7.2 to P7.5: seed %d: of %v %+v answers %v, not %v: %+v", seed, of, c, got, want, s)
			}
			switch {
			case want == full:
				met["full"]++
			case want.got():
				met[[]string{pop: "popped", steal: "stolen"}[c.op]]++
			default:
				met[[]string{push: "pushed", pop: "no", steal: "none", length: "length"}[c.op]]++
			}
		}
		if l := empties(of.n); !asPlain(s, l, all(d, nil, l...)) {
			t.Fatalf("P7.3, P7.4: seed %d: of %v at the end there are not %+v", seed, of, s)
		}
	}
	for _, what := range []string{"pushed", "full", "popped", "no", "stolen", "none", "length"} {
		if met[what] < 5000 {
			t.Errorf("the calls are no good: %v", met)
		}
	}
}

// TestNone: deques that are none, by threads of every kind: no access.
func TestNone(t *testing.T) {
	var null *deque.Deque
	want := []answer{{e: api.ErrNil}, no, none, long(0)}
	asks := func(who string, th *gate.Thread) {
		for what, d := range map[string]*deque.Deque{"nil": null, "made by no call": {}, "made by new": new(deque.Deque)} {
			for _, v := range aid.Values() {
				for range 3 { // also behind a Push that was refused
					if got := all(d, th, pushes(v), pops, steals, lengths); !slices.Equal(got, want) {
						t.Errorf("R3: %s, by %s: Push(%d), Pop, Steal, Len: %v", what, who, v, got)
					}
				}
			}
		}
	}
	for _, f := range aid.Idle(asks) {
		t.Errorf("R3: %s", f)
	}
}

// TestNotLiving: a call that is handed a thread that does not live makes no access of the thread in whose goroutine it is.
func TestNotLiving(t *testing.T) {
	for what, th := range aid.NotLiving() {
		d := size{2, 0}.deque()
		var got []answer
		r := gate.Run(nil, 9, func(*gate.Thread) {
			got = all(d, th, pushes(5), pushes(6), pushes(7), lengths, pops, steals, pops, steals, pushes(8))
		})
		if !slices.Equal(got, []answer{okay, okay, full, long(2), popped(6), stolen(5), no, none, okay}) || len(r.Log) != 0 || r.End != api.Over {
			t.Errorf("P7.2 to P7.5: %s: %v, %+v", what, got, r)
		}
	}
}

// TestRefused: a Push into a full deque, a Pop and a Steal from an empty one change nothing, however often.
func TestRefused(t *testing.T) {
	for _, of := range []size{{2, 0}, {4, math.MaxInt64 - 2}, {64, -9}, {api.MaxRing, math.MaxInt64 - 5}} {
		d := of.deque()
		for round := range int64(4) {
			for range of.n + 3 {
				if got := all(d, nil, pops, steals, lengths); !slices.Equal(got, []answer{no, none, long(0)}) {
					t.Fatalf("R2: of %v: Pop and Steal of what is empty: %v", of, got)
				}
			}
			for i := range of.n {
				if got := do(d, nil, pushes(round+int64(i))); got != okay {
					t.Fatalf("P7.2: of %v: the Push number %d: %v", of, i, got)
				}
			}
			for range of.n + 3 {
				if got := all(d, nil, pushes(-5), lengths); !slices.Equal(got, []answer{full, long(int64(of.n))}) {
					t.Fatalf("R2: of %v: Push into what is full: %v", of, got)
				}
			}
			for i := range of.n { // by turns all from one end, and all from the other
				c, want := steals, stolen(round+int64(i))
				if round%2 == 0 {
					c, want = pops, popped(round+int64(of.n-1-i))
				}
				if got := do(d, nil, c); got != want {
					t.Fatalf("P7.3, P7.4: of %v: the value number %d: %v", of, i, got)
				}
			}
		}
	}
}

// TestEachIsItsOwn: what is done to one deque is not seen in others.
func TestEachIsItsOwn(t *testing.T) {
	of := size{4, 3}
	x, y := of.deque(), of.deque()
	all(x, nil, pushes(1), pushes(2), pushes(3), steals)
	for what, z := range map[string]*deque.Deque{"made ahead": y, "made behind": of.deque()} {
		r, got := alone(z, lengths, pops, steals, pushes(9), pushes(8), steals, pops)
		if !slices.Equal(got, []answer{long(0), no, none, okay, okay, stolen(9), popped(8)}) || r.Log[0].Was != 3 || r.Log[1].Was != 3 {
			t.Errorf("P7.1: %s: %v: %+v", what, got, r)
		}
	}
	if got := all(x, nil, lengths, steals, pops, pops); !slices.Equal(got, []answer{long(2), stolen(2), popped(3), no}) {
		t.Errorf("P7.1: %v", got)
	}
}
