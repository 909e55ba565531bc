package ring_test

import (
	"math"
	"math/rand"
	"slices"
	"testing"

	"treadle/aid"
	"treadle/api"
	"treadle/gate"
	"treadle/ring"
)

// TestExamples: the chapter's table, by each thread that does not live, and by one that does.
func TestExamples(t *testing.T) {
	for what, th := range aid.NotLiving() {
		examples(t, what, th)
	}
	gate.Run(nil, 999, func(th *gate.Thread) { examples(t, "one that lives", th) })
}

func examples(t *testing.T, what string, th *gate.Thread) {
	for _, n := range []int{1, 3, 8192} {
		if r, e := ring.New(n, 0); r != nil || e != api.ErrArg {
			t.Errorf("P6.1: New(%d, 0): %v, %d", n, r, e)
		}
	}
	for _, row := range []struct {
		of    size
		calls []call
		want  []answer
	}{
		{size{2, 0}, []call{takes, puts(7), puts(8), puts(9), lengths, takes, puts(9), takes, takes, takes},
			[]answer{none, okay, okay, full, long(2), took(7), okay, took(8), took(9), none}},
		{size{2, math.MaxInt64}, []call{puts(7), puts(8), takes, takes}, []answer{okay, okay, took(7), took(8)}},
	} {
		if got := all(row.of.ring(), th, row.calls...); !slices.Equal(got, row.want) {
			t.Errorf("P6.2 to P6.4: by %s: %v of %v: %v, not %v", what, row.calls, row.of, got, row.want)
		}
	}
}

// TestHowMany: of which sizes there are rings: the powers of two from 2 to MaxRing, from whatever position.
func TestHowMany(t *testing.T) {
	faults := aid.Rooms(func(n int, from int64) (bool, api.Errno) {
		r, e := ring.New(n, from)
		if n := r.Len(nil); n != 0 {
			t.Errorf("P6.1: at first there are %d", n)
		}
		return r != nil, e
	})
	for _, f := range faults {
		t.Errorf("P6.1: %s", f)
	}
}

// TestNew: what the cells hold at first, and that all of it goes round: of each size, from each position.
func TestNew(t *testing.T) {
	for n := 2; n <= api.MaxRing; n *= 2 {
		l := aid.Positions()
		if n > 64 {
			l = []int64{-7, math.MaxInt64 - 7}
		}
		for _, from := range l {
			w := newWorld(size{n, from}, nil, [][]call{goesAround(n)})
			w.run(t, nil, api.MaxTurns)
			got := w.threads.Got[0]
			if got[n+3] != okay || got[2*n+2] != okay || got[2*n+3] != full || got[2*n+5] != took(-1000) || got[3*n+4] != took(int64(-1000-n+1)) {
				t.Errorf("P6.1 to P6.4: of %d from %d: %v", n, from, got)
			}
			if t.Failed() {
				t.Fatalf("of %d from %d", n, from)
			}
		}
	}
}

// TestSteps: of each call, where nobody else goes between them.
func TestSteps(t *testing.T) {
	two := []call{puts(7), puts(8)}
	for _, row := range []struct {
		of    size
		first []call // free, ahead of it
		c     call
		log   string
		want  answer
	}{
		{size{2, 0}, nil, puts(7), "0 load c0: 0; 0 load c1: 0; 0 cas c0 0 1: 0 ok; 0 store c2 7: 0; 0 store c1 1: 0", okay},
		{size{2, 0}, two[:1], puts(9), "0 load c0: 1; 0 load c1: 1; 0 cas c0 1 2: 1 ok; 0 store c2 9: 0; 0 store c1 2: 1", okay},
		{size{2, 0}, two, puts(9), "0 load c0: 2; 0 load c1: 1", full},
		{size{2, 0}, []call{puts(7), puts(8), takes}, puts(9), "0 load c0: 2; 0 load c1: 2; 0 cas c0 2 3: 2 ok; 0 store c2 9: 7; 0 store c1 3: 2", okay},
		{size{2, 0}, []call{puts(7), puts(8), takes, puts(9)}, puts(1), "0 load c0: 3; 0 load c1: 2", full},
		{size{2, 0}, nil, takes, "0 load c0: 0; 0 load c1: 0", none},
		{size{2, 0}, two[:1], takes, "0 load c0: 0; 0 load c1: 1; 0 cas c0 0 1: 0 ok; 0 load c2: 7; 0 store c1 2: 1", took(7)},
		{size{2, 0}, []call{puts(7), takes}, takes, "0 load c0: 1; 0 load c1: 1", none},
		{size{2, 0}, []call{puts(7), puts(8), takes}, takes, "0 load c0: 1; 0 load c1: 2; 0 cas c0 1 2: 1 ok; 0 load c2: 8; 0 store c1 3: 2", took(8)},
		{size{2, 0}, []call{puts(7), puts(8), takes, takes}, takes, "0 load c0: 2; 0 load c1: 2", none},
		{size{2, 0}, nil, lengths, "0 load c0: 0; 0 load c1: 0", long(0)},
		{size{2, 0}, []call{puts(7), puts(8), takes}, lengths, "0 load c0: 1; 0 load c1: 2", long(1)},
		{size{4, 7}, two, lengths, "0 load c0: 7; 0 load c1: 9", long(2)},
		{size{4, 7}, nil, puts(math.MinInt64), "0 load c0: 7; 0 load c1: 7; 0 cas c0 7 8: 7 ok; 0 store c2 -9223372036854775808: 0; 0 store c1 8: 7", okay},
		{size{4, 7}, two[:1], takes, "0 load c0: 7; 0 load c1: 8; 0 cas c0 7 8: 7 ok; 0 load c2: 7; 0 store c1 11: 8", took(7)},
		{size{4, 7}, []call{puts(1), puts(2), puts(3), puts(4)}, puts(5), "0 load c0: 11; 0 load c1: 8", full},
		{size{8, -3}, nil, puts(0), "0 load c0: -3; 0 load c1: -3; 0 cas c0 -3 -2: -3 ok; 0 store c2 0: 0; 0 store c1 -2: -3", okay},
		{size{8, -3}, two[:1], takes, "0 load c0: -3; 0 load c1: -2; 0 cas c0 -3 -2: -3 ok; 0 load c2: 7; 0 store c1 5: -2", took(7)},
		{size{8, -3}, nil, takes, "0 load c0: -3; 0 load c1: -3", none},
		{size{2, math.MaxInt64}, nil, puts(7), "0 load c0: 9223372036854775807; 0 load c1: 9223372036854775807; 0 cas c0 9223372036854775807 -9223372036854775808: 9223372036854775807 ok; 0 store c2 7: 0; 0 store c1 -9223372036854775808: 9223372036854775807", okay},
		{size{2, math.MaxInt64}, two[:1], puts(8), "0 load c0: -9223372036854775808; 0 load c1: -9223372036854775808; 0 cas c0 -9223372036854775808 -9223372036854775807: -9223372036854775808 ok; 0 store c2 8: 0; 0 store c1 -9223372036854775807: -9223372036854775808", okay},
		{size{2, math.MaxInt64}, two, puts(9), "0 load c0: -9223372036854775807; 0 load c1: -9223372036854775808", full},
		{size{2, math.MaxInt64}, two[:1], takes, "0 load c0: 9223372036854775807; 0 load c1: -9223372036854775808; 0 cas c0 9223372036854775807 -9223372036854775808: 9223372036854775807 ok; 0 load c2: 7; 0 store c1 -9223372036854775807: -9223372036854775808", took(7)},
		{size{2, math.MaxInt64}, two, lengths, "0 load c0: 9223372036854775807; 0 load c1: -9223372036854775807", long(2)},
		{size{2, math.MaxInt64}, nil, takes, "0 load c0: 9223372036854775807; 0 load c1: 9223372036854775807", none},
		{size{2, math.MaxInt64}, []call{puts(7), takes}, takes, "0 load c0: -9223372036854775808; 0 load c1: -9223372036854775808", none},
		{size{4096, math.MinInt64}, nil, puts(1), "0 load c0: -9223372036854775808; 0 load c1: -9223372036854775808; 0 cas c0 -9223372036854775808 -9223372036854775807: -9223372036854775808 ok; 0 store c2 1: 0; 0 store c1 -9223372036854775807: -9223372036854775808", okay},
		{size{4096, math.MinInt64}, two, takes, "0 load c0: -9223372036854775808; 0 load c1: -9223372036854775807; 0 cas c0 -9223372036854775808 -9223372036854775807: -9223372036854775808 ok; 0 load c2: 7; 0 store c1 -9223372036854771712: -9223372036854775807", took(7)},
	} {
		r := row.of.ring()
		all(r, nil, row.first...)
		report, got := alone(r, row.c)
		if s := aid.Texts(report.Log); s != row.log || got[0] != row.want || report.End != api.Over {
			t.Errorf("P6.2 to P6.4: %+v behind %+v of %v:\n got %v: %s\nwant %v: %s", row.c, row.first, row.of, got[0], s, row.want, row.log)
		}
	}
}

// TestFreeAlone: random calls of one goroutine by threads that do not live, now and then by one that does, held against a plain queue.
func TestFreeAlone(t *testing.T) {
	threads := aid.FreeThreads()
	var refused, empty, done int
	for seed := range int64(2000) {
		r := rand.New(rand.NewSource(seed))
		of := size{2 << r.Intn(4), aid.Some(r.Intn, aid.Positions())}
		x, s := of.ring(), of.plain()
		for i := range 120 {
			c := call{op: []int{put, put, take, take, length}[r.Intn(5)], v: aid.Some(r.Intn, aid.Values())}
			if i/20%2 == 0 { // for a while more are put, then more are taken
				c.op = []int{put, put, put, take, length}[r.Intn(5)]
			}
			var got, want answer
			s, want = does(s, c)
			if r.Intn(4) == 0 {
				_, l := alone(x, c)
				got = l[0]
			} else {
				got = do(x, aid.Some(r.Intn, threads), c)
			}
			if got != want {
				t.Fatalf("P6.2 to P6.4: seed %d: of %v %+v answers %v, not %v: %+v", seed, of, c, got, want, s)
			}
			switch {
			case want == full:
				refused++
			case c.op == take && want == none:
				empty++
			case c.op == take:
				done++
			}
		}
		for range of.n + 1 {
			var want answer
			s, want = does(s, takes)
			if got := do(x, nil, takes); got != want {
				t.Fatalf("P6.3: seed %d: of %v behind the end a Take answers %v, not %v", seed, of, got, want)
			}
		}
	}
	if refused < 10000 || empty < 5000 || done < 50000 {
		t.Errorf("the calls are no good: %d, %d, %d", refused, empty, done)
	}
}

// TestNone: rings that are none, by threads of every kind: no access.
func TestNone(t *testing.T) {
	var null *ring.Ring
	want := []answer{{e: api.ErrNil}, none, long(0)}
	asks := func(who string, th *gate.Thread) {
		for what, x := range map[string]*ring.Ring{"nil": null, "made by no call": {}, "made by new": new(ring.Ring)} {
			for _, v := range aid.Values() {
				for range 3 { // also behind a Put that was refused
					if got := all(x, th, puts(v), takes, lengths); !slices.Equal(got, want) {
						t.Errorf("R3: %s, by %s: Put(%d), Take, Len: %v", what, who, v, got)
					}
				}
			}
		}
	}
	for _, f := range aid.Idle(asks) {
		t.Errorf("R3: %s", f)
	}
}

// TestNotLiving: a call that is handed a thread that does not live makes no access of the thread in whose goroutine it is.
func TestNotLiving(t *testing.T) {
	for what, th := range aid.NotLiving() {
		x := size{2, 0}.ring()
		var got []answer
		r := gate.Run(nil, 9, func(*gate.Thread) { got = all(x, th, puts(5), lengths, takes, takes, puts(6)) })
		if !slices.Equal(got, []answer{okay, long(1), took(5), none, okay}) || len(r.Log) != 0 || r.End != api.Over {
			t.Errorf("P6.2 to P6.4: %s: %v, %+v", what, got, r)
		}
	}
}

// TestRefused: a Put into a full ring, a Take from an empty one change nothing, however often.
func TestRefused(t *testing.T) {
	for _, of := range []size{{2, 0}, {4, math.MaxInt64 - 2}, {64, -9}, {api.MaxRing, math.MaxInt64 - 5}} {
		x := of.ring()
		for round := range int64(3) {
			for range of.n + 3 {
				if got := all(x, nil, takes, lengths); got[0] != none || got[1] != long(0) {
					t.Fatalf("R2: of %v: Take of what is empty: %v", of, got)
				}
			}
			for i := range of.n {
				if got := do(x, nil, puts(round+int64(i))); got != okay {
					t.Fatalf("P6.2: of %v: the Put number %d: %v", of, i, got)
				}
			}
			for range of.n + 3 {
				if got := all(x, nil, puts(-5), lengths); got[0] != full || got[1] != long(int64(of.n)) {
					t.Fatalf("R2: of %v: Put into what is full: %v", of, got)
				}
			}
			for i := range of.n {
				if got := do(x, nil, takes); got != took(round+int64(i)) {
					t.Fatalf("P6.3: of %v: the Take number %d: %v", of, i, got)
				}
			}
		}
	}
}

// TestEachIsItsOwn: what is done to one ring is not seen in others.
func TestEachIsItsOwn(t *testing.T) {
	of := size{4, 3}
	x, y := of.ring(), of.ring()
	all(x, nil, puts(1), puts(2), puts(3), takes)
	for what, z := range map[string]*ring.Ring{"made ahead": y, "made behind": of.ring()} {
		r, got := alone(z, lengths, takes, puts(9), takes)
		if !slices.Equal(got, []answer{long(0), none, okay, took(9)}) || r.Log[0].Was != 3 || r.Log[1].Was != 3 {
			t.Errorf("P6.1: %s: %v: %+v", what, got, r)
		}
	}
	if got := all(x, nil, lengths, takes, takes, takes); !slices.Equal(got, []answer{long(2), took(2), took(3), none}) {
		t.Errorf("P6.1: %v", got)
	}
}
