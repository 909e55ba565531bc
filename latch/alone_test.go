package latch_test

import (
	"math"
	"math/rand"
	"slices"
	"testing"
	"testing/synctest"

	"treadle/aid"
	"treadle/api"
	"treadle/gate"
	"treadle/latch"
)

// All of it is in bubbles of synctest: one whose goroutines all sleep for good fails.

// TestExamples: the chapter's table, by each thread that does not live, and by one that does.
func TestExamples(t *testing.T) { synctest.Test(t, examples) }

func examples(t *testing.T) {
	for what, th := range aid.NotLiving() {
		examplesBy(t, what, th)
	}
	gate.Run(nil, 999, func(th *gate.Thread) { examplesBy(t, "one that lives", th) })
}

func examplesBy(t *testing.T, what string, th *gate.Thread) {
	ok, yes, wrong := answer{}, answer{ok: true}, answer{e: api.ErrArg}
	if l, e := latch.New(-1); l != nil || e != api.ErrArg {
		t.Errorf("P5.1: New(-1): %v, %d", l, e)
	}
	if b, e := latch.NewBarrier(0); b != nil || e != api.ErrArg {
		t.Errorf("P5.3: NewBarrier(0): %v, %d", b, e)
	}
	for _, row := range []struct {
		of    size
		calls []call
		want  []answer
	}{
		{size{0, 1}, []call{{op: wait}, {op: down, n: 1}}, []answer{ok, wrong}},
		{size{3, 1}, []call{{op: down, n: 0}, {op: down, n: 4}, {op: down, n: 2}, {op: left}, {op: down, n: 1}, {op: wait}},
			[]answer{wrong, wrong, ok, {n: 1}, ok, ok}},
		{size{0, 1}, []call{{op: unlock}, {op: lock}, {op: try}, {op: unlock}, {op: try}},
			[]answer{{e: api.ErrState}, ok, {}, ok, yes}},
		{size{0, 1}, []call{{op: arrive}, {op: arrive}}, []answer{yes, {n: 1, ok: true}}},
	} {
		if got := row.of.things().all(th, row.calls...); !slices.Equal(got, row.want) {
			t.Errorf("P5.1 to P5.3: by %s: %v: %v, not %v", what, row.calls, got, row.want)
		}
	}
}

// TestHowMany: latches and barriers of too few, and of as many as may be.
func TestHowMany(t *testing.T) { synctest.Test(t, howMany) }

func howMany(t *testing.T) {
	for _, n := range []int64{-1, -2, -64, -1 << 32, math.MinInt64, math.MinInt64 + 1} {
		if l, e := latch.New(n); l != nil || e != api.ErrArg {
			t.Errorf("P5.1: New(%d): %v, %d", n, l, e)
		}
		if b, e := latch.NewBarrier(n); b != nil || e != api.ErrArg {
			t.Errorf("P5.3: NewBarrier(%d): %v, %d", n, b, e)
		}
	}
	if b, e := latch.NewBarrier(0); b != nil || e != api.ErrArg {
		t.Errorf("P5.3: NewBarrier(0): %v, %d", b, e)
	}
	if l, e := latch.New(0); l == nil || e != api.OK || l.Left(nil) != 0 {
		t.Errorf("P5.1: New(0): %d", e)
	}
	for _, n := range []int64{1, 2, 3, 64, 65, 1 << 12, 1<<12 + 1, 1 << 32, math.MaxInt64 - 1, math.MaxInt64} {
		l, e := latch.New(n)
		b, f := latch.NewBarrier(n)
		if l == nil || b == nil || e != api.OK || f != api.OK {
			t.Fatalf("P5.1, P5.3: of %d: %d, %d", n, e, f)
		}
		if held := (things{l, latch.NewLock(), b}).inside(); held != [4]int64{n, 0, 0, 0} {
			t.Errorf("P5.1 to P5.3: of %d: the cells hold %v", n, held)
		}
	}
}

// row: what a thread does with a call, where nobody else goes between its steps.
type row struct {
	of    size
	first []call // free, ahead of it
	c     call
	log   string // of OpLoad and so on
	left  string // where it is left, if it sleeps
	want  answer
}

func (w row) look(t *testing.T) {
	x := w.of.things()
	x.all(nil, w.first...)
	r, got := x.alone(w.c)
	a := sleeps
	if len(got) > 0 {
		a = got[0]
	}
	if aid.Texts(r.Log) != w.log || aid.Texts(r.Left) != w.left || a != w.want {
		t.Errorf("%+v behind %+v of %v:\n got %v: %s, left %s\nwant %v: %s, left %s", w.c, w.first, w.of, a, aid.Texts(r.Log), aid.Texts(r.Left), w.want, w.log, w.left)
	}
}

func TestStepsOfLatches(t *testing.T) {
	const most = math.MaxInt64
	ok, wrong, downs := answer{}, answer{e: api.ErrArg}, call{op: down, n: 1}
	for _, w := range []row{
		{size{3, 1}, nil, call{op: down, n: 1}, "0 load c0: 3; 0 cas c0 3 2: 3 ok", "", ok},
		{size{3, 1}, nil, call{op: down, n: 3}, "0 load c0: 3; 0 cas c0 3 0: 3 ok", "", ok},
		{size{3, 1}, nil, call{op: down, n: 4}, "0 load c0: 3", "", wrong},
		{size{3, 1}, nil, call{op: down, n: most}, "0 load c0: 3", "", wrong},
		{size{3, 1}, []call{downs}, call{op: down, n: 2}, "0 load c0: 2; 0 cas c0 2 0: 2 ok", "", ok},
		{size{3, 1}, []call{downs}, call{op: down, n: 3}, "0 load c0: 2", "", wrong},
		{size{3, 1}, nil, call{op: down, n: 0}, "", "", wrong},
		{size{3, 1}, nil, call{op: down, n: -1}, "", "", wrong},
		{size{3, 1}, nil, call{op: down, n: math.MinInt64}, "", "", wrong},
		{size{0, 1}, nil, call{op: down, n: 0}, "", "", wrong},
		{size{0, 1}, nil, downs, "0 load c0: 0", "", wrong},
		{size{1, 1}, []call{downs}, downs, "0 load c0: 0", "", wrong},
		{size{most, 1}, nil, call{op: down, n: most}, "0 load c0: 9223372036854775807; 0 cas c0 9223372036854775807 0: 9223372036854775807 ok", "", ok},
		{size{most - 1, 1}, nil, call{op: down, n: most}, "0 load c0: 9223372036854775806", "", wrong},
		{size{0, 1}, nil, call{op: wait}, "0 load c0: 0", "", ok},
		{size{2, 1}, []call{downs, downs}, call{op: wait}, "0 load c0: 0", "", ok},
		{size{2, 1}, nil, call{op: wait}, "0 load c0: 2", "0 park c0 2: 2", sleeps},
		{size{2, 1}, []call{downs}, call{op: wait}, "0 load c0: 1", "0 park c0 1: 1", sleeps},
		{size{most, 1}, nil, call{op: wait}, "0 load c0: 9223372036854775807", "0 park c0 9223372036854775807: 9223372036854775807", sleeps},
		{size{2, 1}, nil, call{op: left}, "0 load c0: 2", "", answer{n: 2}},
		{size{2, 1}, []call{downs}, call{op: left}, "0 load c0: 1", "", answer{n: 1}},
		{size{0, 1}, nil, call{op: left}, "0 load c0: 0", "", ok},
	} {
		synctest.Test(t, w.look)
	}
}

func TestStepsOfLocks(t *testing.T) {
	ok, yes, wrong := answer{}, answer{ok: true}, answer{e: api.ErrState}
	locks, tries, unlocks := call{op: lock}, call{op: try}, call{op: unlock}
	for _, w := range []row{
		{size{0, 1}, nil, locks, "0 cas c0 0 1: 0 ok", "", ok},
		{size{0, 1}, []call{locks}, locks, "0 cas c0 0 1: 1 no; 0 swap c0 2: 1", "0 park c0 2: 2", sleeps},
		{size{0, 1}, []call{tries}, locks, "0 cas c0 0 1: 1 no; 0 swap c0 2: 1", "0 park c0 2: 2", sleeps},
		{size{0, 1}, []call{locks, unlocks}, locks, "0 cas c0 0 1: 0 ok", "", ok},
		{size{0, 1}, nil, tries, "0 cas c0 0 1: 0 ok", "", yes},
		{size{0, 1}, []call{locks}, tries, "0 cas c0 0 1: 1 no", "", ok},
		{size{0, 1}, []call{tries}, tries, "0 cas c0 0 1: 1 no", "", ok},
		{size{0, 1}, []call{tries, unlocks}, tries, "0 cas c0 0 1: 0 ok", "", yes},
		{size{0, 1}, nil, unlocks, "0 swap c0 0: 0", "", wrong},
		{size{0, 1}, []call{locks}, unlocks, "0 swap c0 0: 1", "", ok},
		{size{0, 1}, []call{tries}, unlocks, "0 swap c0 0: 1", "", ok},
		{size{0, 1}, []call{locks, unlocks}, unlocks, "0 swap c0 0: 0", "", wrong},
		{size{0, 1}, []call{unlocks}, locks, "0 cas c0 0 1: 0 ok", "", ok},
		{size{0, 1}, []call{unlocks}, tries, "0 cas c0 0 1: 0 ok", "", yes},
	} {
		synctest.Test(t, w.look)
	}
}

func TestStepsOfBarriers(t *testing.T) {
	arrives := call{op: arrive}
	for _, w := range []row{
		{size{0, 1}, nil, arrives, "0 load c0: 0; 0 add c1 1: 0; 0 store c1 0: 1; 0 add c0 1: 0", "", answer{ok: true}},
		{size{0, 1}, []call{arrives, arrives}, arrives, "0 load c0: 2; 0 add c1 1: 0; 0 store c1 0: 1; 0 add c0 1: 2", "", answer{n: 2, ok: true}},
		{size{0, 2}, nil, arrives, "0 load c0: 0; 0 add c1 1: 0", "0 park c0 0: 0", sleeps},
		{size{0, math.MaxInt64}, nil, arrives, "0 load c0: 0; 0 add c1 1: 0", "0 park c0 0: 0", sleeps},
		{size{0, 1 << 32}, nil, arrives, "0 load c0: 0; 0 add c1 1: 0", "0 park c0 0: 0", sleeps},
		{size{0, 1<<32 + 1}, nil, arrives, "0 load c0: 0; 0 add c1 1: 0", "0 park c0 0: 0", sleeps},
	} {
		synctest.Test(t, w.look)
	}
}

// TestALockThatIsWaitedFor: its number is 2, and all goes as of one that is held.
func TestALockThatIsWaitedFor(t *testing.T) { synctest.Test(t, aLockThatIsWaitedFor) }

func aLockThatIsWaitedFor(t *testing.T) {
	for _, w := range []struct {
		c    call
		log  string
		left string
		want answer
		is   int64 // what the cell holds then
	}{
		{call{op: lock}, "0 cas c0 0 1: 2 no; 0 swap c0 2: 2", "0 park c0 2: 2", sleeps, 2},
		{call{op: try}, "0 cas c0 0 1: 2 no", "", answer{}, 2},
		{call{op: unlock}, "0 swap c0 0: 2", "", answer{}, 0},
	} {
		x := size{0, 1}.things()
		x.all(nil, call{op: lock})
		if r, _ := x.alone(call{op: lock}); r.End != api.Dead {
			t.Fatalf("P5.2: %+v", r)
		}
		r, got := x.alone(w.c)
		a := sleeps
		if len(got) > 0 {
			a = got[0]
		}
		if aid.Texts(r.Log) != w.log || aid.Texts(r.Left) != w.left || a != w.want || x.inside()[1] != w.is {
			t.Errorf("P5.2: %+v: %v: %+v", w.c, a, r)
		}
	}
}

// TestFreeAlone: random calls of one goroutine by threads that do not live, now and then by one that does, held against the plain words.
func TestFreeAlone(t *testing.T) { synctest.Test(t, freeAlone) }

func freeAlone(t *testing.T) {
	threads := aid.FreeThreads()
	asked, slept := [visit]int{}, 0
	for seed := range int64(2000) {
		r := rand.New(rand.NewSource(seed))
		values := [][]int64{aid.Values(), {0, 1, 2, 3}}[r.Intn(2)]
		of := size{max(values[r.Intn(len(values))], 0), 1 + int64(r.Intn(2))}
		x, s := of.things(), of.state()
		for range 60 {
			c := someCall(r, values)
			next, want := does(s, c)
			if want == sleeps {
				slept++
				continue // for good
			}
			asked[c.op]++
			s = next
			var got answer
			if r.Intn(4) == 0 {
				_, l := x.alone(c)
				got = l[0]
			} else {
				got = x.do(threads[r.Intn(len(threads))], c)
			}
			if got != want {
				t.Fatalf("P5.1 to P5.3: seed %d: of %+v %+v answers %v, not %v: %+v", seed, of, c, got, want, s)
			}
		}
		held := x.inside()
		if held[0] != s.left || held[1] > 1 || held[1] == 1 != s.taken || held[2] != s.round || held[3] != s.count {
			t.Fatalf("P5.1 to P5.3: seed %d: the cells hold %v, not %+v", seed, held, s)
		}
	}
	if slept < 10000 || slices.Min(asked[:]) < 1000 {
		t.Errorf("the calls are no good: %v, %d slept", asked, slept)
	}
}

// TestNone: things that are none, by threads of every kind: no access.
func TestNone(t *testing.T) { synctest.Test(t, none) }

func none(t *testing.T) {
	var null things
	unmade := things{&latch.Latch{}, &latch.Lock{}, &latch.Barrier{}}
	byNew := things{new(latch.Latch), new(latch.Lock), new(latch.Barrier)}
	no := answer{e: api.ErrNil}
	want := []answer{no, no, {}, no, {}, no, no}
	asks := func(who string, th *gate.Thread) {
		for what, x := range map[string]things{"nil": null, "made by no call": unmade, "made by new": byNew} {
			for _, n := range aid.Values() {
				calls := each()
				calls[0].n = n // ErrNil is ahead of ErrArg
				if got := x.all(th, calls...); !slices.Equal(got, want) {
					t.Errorf("R3: %s, by %s: Down(%d): %v", what, who, n, got)
				}
			}
		}
	}
	for _, f := range aid.Idle(asks) {
		t.Errorf("R3: %s", f)
	}
}

// TestNotLiving: a call that is handed a thread that does not live makes no access of the thread in whose goroutine it is.
func TestNotLiving(t *testing.T) { synctest.Test(t, byNotLiving) }

func byNotLiving(t *testing.T) {
	for what, th := range aid.NotLiving() {
		x := size{1, 1}.things()
		var got []answer
		r := gate.Run(nil, 9, func(*gate.Thread) { got = x.all(th, each()...) })
		if !slices.Equal(got, []answer{{}, {}, {}, {}, {}, {}, {ok: true}}) || len(r.Log) != 0 || r.End != api.Over {
			t.Errorf("P5.1 to P5.3: %s: %v, %+v", what, got, r)
		}
	}
}

// TestRefused: a call that is refused changes nothing; but an unlock of what is free leaves it free.
func TestRefused(t *testing.T) { synctest.Test(t, refused) }

func refused(t *testing.T) {
	wrong, state := answer{e: api.ErrArg}, answer{e: api.ErrState}
	x := size{5, 2}.things()
	for _, n := range []int64{0, -1, 6, 7, math.MaxInt64, math.MinInt64, -5, 1 << 32} {
		if got := x.all(nil, call{op: down, n: n}, call{op: left}); got[0] != wrong || got[1].n != 5 {
			t.Errorf("R2: Down(%d) of 5: %v", n, got)
		}
	}
	if got := x.all(nil, call{op: unlock}, call{op: unlock}); got[0] != state || got[1] != state {
		t.Errorf("R2: Unlock of what is free: %v", got)
	}
	if held := x.inside(); held != [4]int64{5, 0, 0, 0} {
		t.Errorf("R2: the cells hold %v", held)
	}
}

// TestEachIsItsOwn: what is done to some is not seen in others.
func TestEachIsItsOwn(t *testing.T) { synctest.Test(t, eachIsItsOwn) }

func eachIsItsOwn(t *testing.T) {
	of := size{3, 1}
	x, y := of.things(), of.things()
	x.all(nil, call{op: down, n: 2}, call{op: lock}, call{op: arrive}, call{op: arrive})
	for what, z := range map[string]things{"made ahead": y, "made behind": of.things()} {
		if held := z.inside(); held != [4]int64{3, 0, 0, 0} {
			t.Errorf("P5.1 to P5.3: %s: the cells hold %v", what, held)
		}
	}
	if held := x.inside(); held != [4]int64{1, 1, 2, 0} {
		t.Errorf("P5.1 to P5.3: the cells hold %v", held)
	}
}
