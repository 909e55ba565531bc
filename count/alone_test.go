package count_test

import (
	"math"
	"math/rand"
	"slices"
	"testing"

	"treadle/aid"
	"treadle/api"
	"treadle/count"
	"treadle/gate"
)

// TestExamples: the chapter's table, by each thread that does not live, and by one that does.
func TestExamples(t *testing.T) {
	for what, th := range aid.NotLiving() {
		examples(t, what, th)
	}
	gate.Run(nil, 99, func(th *gate.Thread) { examples(t, "one that lives", th) })
}

func examples(t *testing.T, what string, th *gate.Thread) {
	yes, ok := answer{ok: true}, answer{}
	for _, row := range []struct {
		of    size
		calls []call
		want  []answer
	}{
		{size{stripes: 2}, []call{{op: add, who: 0, n: 5}, {op: add, who: -1, n: 7}, {op: add, who: 4, n: 1}, {op: sum}},
			[]answer{ok, ok, ok, {n: 13}}},
		{size{stripes: 1, peak: 3}, []call{{op: raise, n: 2}, {op: raise, n: 3}, {op: raise, n: 9}, {op: top}},
			[]answer{{}, {}, yes, {n: 9}}},
		{size{stripes: 1, tickets: 1}, []call{{op: back}, {op: take}, {op: take}, {op: left}, {op: back}, {op: left}},
			[]answer{{e: api.ErrArg}, yes, {}, {}, ok, {n: 1}}},
	} {
		if got := row.of.things().all(th, row.calls...); !slices.Equal(got, row.want) {
			t.Errorf("P4.1 to P4.3: by %s: %v: %v, not %v", what, row.calls, got, row.want)
		}
	}
	c, _ := count.New(2)
	for _, row := range []struct {
		who int
		d   int64
	}{{0, 5}, {-1, 7}, {4, 1}} {
		c.Add(nil, row.who, row.d)
	}
	if l, n := held(c); !slices.Equal(l, []int64{6, 7}) || n != 13 {
		t.Errorf("P4.1: the stripes hold %v, %d", l, n)
	}
}

// TestHowMany: stripes and tickets that are too few or too many, and all that are not.
func TestHowMany(t *testing.T) {
	for _, n := range []int{0, -1, -64, api.MaxStripes + 1, 1000, math.MaxInt, math.MinInt, 1<<32 + 1} {
		if c, e := count.New(n); c != nil || e != api.ErrArg {
			t.Errorf("P4.1: New(%d): %v, %d", n, c, e)
		}
	}
	for n := 1; n <= api.MaxStripes; n++ {
		c, e := count.New(n)
		if l, all := held(c); e != api.OK || !slices.Equal(l, make([]int64, n)) || all != 0 {
			t.Errorf("P4.1: New(%d): %d: %v", n, e, l)
		}
	}
	for _, n := range []int64{-1, -2, math.MinInt64, math.MinInt64 + 1} {
		if k, e := count.NewTickets(n); k != nil || e != api.ErrArg {
			t.Errorf("P4.3: NewTickets(%d): %v, %d", n, k, e)
		}
	}
	for _, n := range []int64{0, 1, 2, 65, 1 << 32, math.MaxInt64} {
		if k, e := count.NewTickets(n); k == nil || e != api.OK || k.Left(nil) != n {
			t.Errorf("P4.3: NewTickets(%d): %d", n, e)
		}
	}
}

// TestWhoAdds: each who adds to his own stripe alone, in one access.
func TestWhoAdds(t *testing.T) {
	for stripes := 1; stripes <= api.MaxStripes; stripes++ {
		for _, who := range whos() {
			c, _ := count.New(stripes)
			want := make([]int64, stripes)
			want[stripeOf(who, stripes)] = 3
			r := gate.Run(nil, 9, func(th *gate.Thread) { c.Add(th, who, 3) })
			if l, _ := held(c); !slices.Equal(l, want) || aid.Texts(r.Log) != "0 add c0 3: 0" {
				t.Errorf("P4.1: Add of %d of %d stripes: %v: %s", who, stripes, l, aid.Texts(r.Log))
			}
		}
	}
}

// TestSteps: of each call, where nobody else goes between them.
func TestSteps(t *testing.T) {
	yes, ok := answer{ok: true}, answer{}
	for _, row := range []struct {
		of    size
		first []call // free, ahead of it
		c     call
		log   string
		want  answer
	}{
		{size{stripes: 3}, nil, call{op: add, who: 1, n: 0}, "0 add c0 0: 0", ok},
		{size{stripes: 3}, []call{{op: add, who: 2, n: 9}}, call{op: add, who: 2, n: -4}, "0 add c0 -4: 9", ok},
		{size{stripes: 1}, nil, call{op: sum}, "0 load c0: 0", answer{}},
		{size{stripes: 3}, []call{{op: add, who: 2, n: 4}, {op: add, who: 0, n: 9}}, call{op: sum}, "0 load c0: 9; 0 load c1: 0; 0 load c2: 4", answer{n: 13}},
		{size{1, 3, 0}, nil, call{op: raise, n: 2}, "0 load c0: 3", answer{}},
		{size{1, 3, 0}, nil, call{op: raise, n: 3}, "0 load c0: 3", answer{}},
		{size{1, 3, 0}, nil, call{op: raise, n: 4}, "0 load c0: 3; 0 cas c0 3 4: 3 ok", yes},
		{size{1, 3, 0}, []call{{op: raise, n: 8}}, call{op: raise, n: 7}, "0 load c0: 8", answer{}},
		{size{1, 3, 0}, nil, call{op: top}, "0 load c0: 3", answer{n: 3}},
		{size{1, 0, 2}, nil, call{op: take}, "0 load c0: 2; 0 cas c0 2 1: 2 ok", yes},
		{size{1, 0, 1}, []call{{op: take}}, call{op: take}, "0 load c0: 0", answer{}},
		{size{1, 0, 0}, nil, call{op: take}, "0 load c0: 0", answer{}},
		{size{1, 0, 0}, nil, call{op: back}, "0 load c0: 0", answer{e: api.ErrArg}},
		{size{1, 0, 2}, nil, call{op: back}, "0 load c0: 2", answer{e: api.ErrArg}},
		{size{1, 0, 2}, []call{{op: take}}, call{op: back}, "0 load c0: 1; 0 cas c0 1 2: 1 ok", ok},
		{size{1, 0, 2}, []call{{op: take}, {op: take}}, call{op: back}, "0 load c0: 0; 0 cas c0 0 1: 0 ok", ok},
		{size{1, 0, 2}, []call{{op: take}}, call{op: left}, "0 load c0: 1", answer{n: 1}},
	} {
		x := row.of.things()
		x.all(nil, row.first...)
		if log, got := x.alone(row.c); log != row.log || got[0] != row.want {
			t.Errorf("P4.1 to P4.3: %+v behind %+v: %v: %s, not %v: %s", row.c, row.first, got[0], log, row.want, row.log)
		}
	}
}

// TestEnds: values at the ends of int64; sums go round.
func TestEnds(t *testing.T) {
	const most, least = math.MaxInt64, math.MinInt64
	yes, ok, no := answer{ok: true}, answer{}, answer{e: api.ErrArg}
	for _, row := range []struct {
		of    size
		calls []call
		want  []answer
	}{
		{size{stripes: 1}, []call{{op: add, n: most}, {op: sum}, {op: add, n: 1}, {op: sum}}, []answer{ok, {n: most}, ok, {n: least}}},
		{size{stripes: 2}, []call{{op: add, n: most}, {op: add, who: 1, n: 2}, {op: sum}}, []answer{ok, ok, {n: least + 1}}},
		{size{stripes: 2}, []call{{op: add, n: least}, {op: add, who: 1, n: least}, {op: sum}}, []answer{ok, ok, {}}},
		{size{stripes: 2}, []call{{op: add, n: least}, {op: add, who: 1, n: -1}, {op: sum}}, []answer{ok, ok, {n: most}}},
		{size{1, least, 0}, []call{{op: raise, n: least}, {op: raise, n: least + 1}, {op: top}}, []answer{{}, yes, {n: least + 1}}},
		{size{1, least, 0}, []call{{op: raise, n: most}, {op: top}, {op: raise, n: most}, {op: raise, n: least}}, []answer{yes, {n: most}, {}, {}}},
		{size{1, most, 0}, []call{{op: raise, n: most}, {op: raise, n: least}, {op: raise, n: 0}, {op: top}}, []answer{{}, {}, {}, {n: most}}},
		{size{1, -5, 0}, []call{{op: raise, n: -6}, {op: raise, n: -4}, {op: top}}, []answer{{}, yes, {n: -4}}},
		{size{1, 0, most}, []call{{op: back}, {op: take}, {op: left}, {op: back}, {op: left}, {op: back}}, []answer{no, yes, {n: most - 1}, ok, {n: most}, no}},
		{size{1, 0, 0}, []call{{op: take}, {op: back}, {op: left}, {op: take}}, []answer{{}, no, {}, {}}},
	} {
		if got := row.of.things().all(nil, row.calls...); !slices.Equal(got, row.want) {
			t.Errorf("P4.1 to P4.3: free: %+v: %v, not %v", row.calls, got, row.want)
		}
		if _, got := row.of.things().alone(row.calls...); !slices.Equal(got, row.want) {
			t.Errorf("P4.1 to P4.3: by a thread: %+v: %v, not %v", row.calls, got, row.want)
		}
	}
}

// TestFreeAlone: random calls of one goroutine by threads that do not live, now and then by one that does, held against the plain words.
func TestFreeAlone(t *testing.T) {
	threads := aid.FreeThreads()
	for seed := range int64(1000) {
		r := rand.New(rand.NewSource(seed))
		of := size{1 + r.Intn(9), aid.Some(r.Intn, aid.Values()), int64(r.Intn(4))}
		x, s := of.things(), of.state()
		for range 40 {
			c := someCall(r, aid.Values())
			var want, got answer
			s, want = does(s, c)
			if r.Intn(4) == 0 {
				_, l := x.alone(c)
				got = l[0]
			} else {
				got = x.do(threads[r.Intn(len(threads))], c)
			}
			if got != want {
				t.Fatalf("P4.1 to P4.3: seed %d: %+v answers %v, not %v: %+v", seed, c, got, want, s)
			}
		}
		if got := x.all(nil, call{op: sum}, call{op: top}, call{op: left}); !slices.Equal(got, []answer{{n: s.added}, {n: s.peak}, {n: s.left}}) {
			t.Fatalf("P4.1 to P4.3: seed %d: %v are left, not %+v", seed, got, s)
		}
	}
}

// TestNone: things that are none, by threads of every kind: no access.
func TestNone(t *testing.T) {
	var null things
	unmade := things{&count.Counter{}, &count.Peak{}, &count.Tickets{}}
	byNew := things{new(count.Counter), new(count.Peak), new(count.Tickets)}
	want := []answer{{e: api.ErrNil}, {}, {}, {}, {}, {e: api.ErrNil}, {}}
	asks := func(who string, th *gate.Thread) {
		for what, x := range map[string]things{"nil": null, "made by no call": unmade, "made by new": byNew} {
			for _, n := range aid.Values() {
				calls := each()
				for i := range calls {
					calls[i].n, calls[i].who = n, int(n)
				}
				if got := x.all(th, calls...); !slices.Equal(got, want) {
					t.Errorf("R3: %s, by %s: %v", what, who, got)
				}
			}
		}
	}
	for _, f := range aid.Idle(asks) {
		t.Errorf("R3: %s", f)
	}
}

// TestNotLiving: a call that is handed a thread that does not live makes no access of the thread in whose goroutine it is.
func TestNotLiving(t *testing.T) {
	for what, th := range aid.NotLiving() {
		x := size{2, 0, 1}.things()
		var got []answer
		r := gate.Run(nil, 9, func(*gate.Thread) { got = x.all(th, each()...) })
		if !slices.Equal(got, []answer{{}, {n: 5}, {ok: true}, {n: 5}, {ok: true}, {}, {n: 1}}) || len(r.Log) != 0 || r.End != api.Over {
			t.Errorf("P4.1 to P4.3: %s: %v, %+v", what, got, r)
		}
	}
}

// TestRefused: a Back of what is not out changes nothing.
func TestRefused(t *testing.T) {
	x := size{1, 0, 2}.things()
	got := x.all(nil, call{op: back}, call{op: back}, call{op: left}, call{op: take}, call{op: take}, call{op: take}, call{op: left})
	if want := []answer{{e: api.ErrArg}, {e: api.ErrArg}, {n: 2}, {ok: true}, {ok: true}, {}, {}}; !slices.Equal(got, want) {
		t.Errorf("R2: %v, not %v", got, want)
	}
}

// TestEachIsItsOwn: what is done to some is not seen in others.
func TestEachIsItsOwn(t *testing.T) {
	of := size{4, 0, 3}
	x, y := of.things(), of.things()
	for range 3 {
		x.all(nil, call{op: add, n: 1}, call{op: raise, n: 5}, call{op: take})
	}
	want := []answer{{}, {}, {n: 3}}
	for what, z := range map[string]things{"made ahead": y, "made behind": of.things()} {
		if got := z.all(nil, call{op: sum}, call{op: top}, call{op: left}); !slices.Equal(got, want) {
			t.Errorf("P4.1 to P4.3: %s: %v", what, got)
		}
	}
}
