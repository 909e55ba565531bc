package clock_test

import (
	"cmp"
	"math"
	"math/rand"
	"slices"
	"strconv"
	"testing"

	"treadle/aid"
	"treadle/api"
	"treadle/clock"
	"treadle/gate"
)

// TestExamples: the chapter's table, by each thread that does not live, and by one that does.
func TestExamples(t *testing.T) {
	for what, th := range aid.NotLiving() {
		examples(t, what, th)
	}
	gate.Run(nil, api.MaxTurns, func(th *gate.Thread) { examples(t, "one that lives", th) })
}

func examples(t *testing.T, what string, th *gate.Thread) {
	a, b, c, d := quiet("A"), quiet("B"), quiet("C"), quiet("D")
	for _, row := range []struct {
		calls []call
		want  []answer
	}{
		{[]call{sets(5, a), sets(3, b), sets(3, c), advances(2), advances(1), looks, sets(9, d), stops(1, 2), stops(0, 2), stops(0, 2), advances(1 << 62), looks, advances(1), looks, sets(-1, a), sets(1, nil), advances(-1)},
			[]answer{laid(0, 2), laid(1, 2), laid(2, 2), rung(0, ""), rung(2, "B C "), at(3), laid(1, 6), no, yes, no, rung(1, "D "), at(1 << 62), rung(0, ""), at(1 << 62), wrong, wrong, wrong}},
		{slices.Repeat([]call{sets(99, a)}, 17),
			[]answer{laid(0, 2), laid(1, 2), laid(2, 2), laid(3, 2), laid(4, 2), laid(5, 2), laid(6, 2), laid(7, 2), laid(8, 2), laid(9, 2), laid(10, 2), laid(11, 2), laid(12, 2), laid(13, 2), laid(14, 2), laid(15, 2), full}},
		{[]call{sets(0, endless("E", 0)), advances(0), looks}, []answer{laid(0, 2), rung(64, endlessly("E", 1, 64)), at(0)}},
		{[]call{looks, advances(0), looks, advances(7), looks}, []answer{at(0), rung(0, ""), at(0), rung(0, ""), at(7)}},
	} {
		if got := makes(newClock(), th, row.calls...); !slices.Equal(got, row.want) {
			t.Errorf("P10.1 to P10.4: by %s: %v:\n got %v\nwant %v", what, row.calls, got, row.want)
			return
		}
	}
}

// TestSteps: of each call, where nobody else goes between them.
func TestSteps(t *testing.T) {
	a := quiet("A")
	begins := func(d, n, m string) string {
		return "0 cas c0 0 1: 0 ok; 0 load c1: " + n + "; 0 store c1 " + m + ": " + n + "; "
	}
	const ends = "; 0 store c0 0: 1"
	for _, row := range []struct {
		first []call // free, ahead of it
		c     call
		log   string
		want  answer
	}{
		{nil, looks, "0 load c0: 0", at(0)},
		{[]call{advances(7)}, looks, "0 load c0: 7", at(7)},
		{nil, sets(5, a), "0 load c0: 0; 0 cas c0 0 1: 0 ok; 0 store c1 5: 0; 0 store c0 2: 1", laid(0, 2)},
		{nil, sets(1<<62, a), "0 load c0: 0; 0 cas c0 0 1: 0 ok; 0 store c1 4611686018427387904: 0; 0 store c0 2: 1", laid(0, 2)},
		{fills(2, 9), sets(0, a), loads(0, 2, 2) + "; 0 load c2: 0; 0 cas c2 0 1: 0 ok; 0 store c3 0: 0; 0 store c2 2: 1", laid(2, 2)},
		{append(fills(3, 9), stops(1, 2)), sets(5, a), loads(0, 2) + "; 0 load c1: 4; 0 cas c1 4 5: 4 ok; 0 store c2 5: 9; 0 store c1 6: 5", laid(1, 6)},
		{append(fills(3, 9), advances(9)), sets(5, a), "0 load c0: 4; 0 cas c0 4 5: 4 ok; 0 store c1 5: 9; 0 store c0 6: 5", laid(0, 6)},
		{fills(15, 9), sets(5, a), loads(0, slices.Repeat([]int64{2}, 15)...) + "; 0 load c15: 0; 0 cas c15 0 1: 0 ok; 0 store c16 5: 0; 0 store c15 2: 1", laid(15, 2)},
		{fills(16, 9), sets(5, a), loads(0, slices.Repeat([]int64{2}, 16)...), full},
		{fills(1, 9), stops(0, 2), "0 cas c0 2 4: 2 ok", yes},
		{append(fills(1, 9), stops(0, 2)), stops(0, 2), "0 cas c0 2 4: 4 no", no},
		{append(fills(1, 9), advances(9)), stops(0, 2), "0 cas c0 2 4: 4 no", no},
		{append(fills(1, 9), advances(9), sets(9, a)), stops(0, 2), "0 cas c0 2 4: 6 no", no},
		{append(fills(1, 9), advances(9), sets(9, a)), stops(0, 6), "0 cas c0 6 8: 6 ok", yes},
		{nil, stops(15, 2), "0 cas c0 2 4: 0 no", no},
		{nil, stops(15, math.MaxInt64-1), "0 cas c0 9223372036854775806 -9223372036854775808: 0 no", no},
		{nil, advances(7), begins("7", "0", "7") + loads(2, frees(16)...) + ends, rung(0, "")},
		{nil, advances(0), begins("0", "0", "0") + loads(2, frees(16)...) + ends, rung(0, "")},
		{[]call{advances(7)}, advances(math.MaxInt64), begins("9223372036854775807", "7", "4611686018427387904") + loads(2, frees(16)...) + ends, rung(0, "")},
		{[]call{sets(8, a), advances(3)}, advances(4), begins("4", "3", "7") + loads(2, 2, 8) + "; " + loads(4, frees(15)...) + ends, rung(0, "")},
		{[]call{sets(8, a), advances(3)}, advances(5), begins("5", "3", "8") + loads(2, 2, 8) + "; " + loads(4, frees(15)...) +
			"; 0 cas c2 2 3: 2 ok; 0 store c2 4: 3; 0 load c2: 4; " + loads(4, frees(15)...) + ends, rung(1, "A ")},
		{[]call{sets(8, quiet("B")), sets(5, a), sets(5, quiet("C")), sets(9, a), stops(2, 2)}, advances(8), begins("8", "0", "8") + loads(2, 2, 8, 2, 5, 4, 2, 9) + "; " + loads(9, frees(12)...) +
			"; 0 cas c4 2 3: 2 ok; 0 store c4 4: 3; " + loads(2, 2, 8, 4) + "; " + loads(6, 4, 2, 9) + "; " + loads(9, frees(12)...) +
			"; 0 cas c2 2 3: 2 ok; 0 store c2 4: 3; 0 load c2: 4; 0 load c4: 4; " + loads(6, 4, 2, 9) + "; " + loads(9, frees(12)...) + ends, rung(2, "A B ")},
		{[]call{sets(0, busies("A", looks, sets(1, a), stops(1, 2), stops(0, 2), advances(1)))}, advances(0), begins("0", "0", "0") + loads(2, 2, 0) + "; " + loads(4, frees(15)...) +
			"; 0 cas c2 2 3: 2 ok; 0 load c1: 0; 0 load c2: 3; 0 load c4: 0; 0 cas c4 0 1: 0 ok; 0 store c19 1: 0; 0 store c4 2: 1; 0 cas c4 2 4: 2 ok; 0 cas c2 2 4: 3 no; 0 cas c0 0 1: 1 no; 0 store c2 4: 3; " +
			"0 load c2: 4; 0 load c4: 4; " + loads(5, frees(14)...) + ends, rung(1, "A( 0 1/2 yes no error 14 ) ")},
		{[]call{sets(0, fallen("A"))}, advances(1), begins("1", "0", "1") + loads(2, 2, 0) + "; " + loads(4, frees(15)...) + "; 0 cas c2 2 3: 2 ok", falls("A", "A ")},
		{[]call{sets(0, fallen("A")), advances(0)}, advances(1), "0 cas c0 0 1: 1 no", busy},
		{[]call{sets(0, fallen("A")), advances(0)}, stops(0, 2), "0 cas c0 2 4: 3 no", no},
		{[]call{sets(0, fallen("A")), advances(0)}, sets(0, a), "0 load c0: 3; 0 load c1: 0; 0 cas c1 0 1: 0 ok; 0 store c2 0: 0; 0 store c1 2: 1", laid(1, 2)},
	} {
		p := newClock()
		makes(p, nil, row.first...)
		report, got := alone(p, row.c)
		if log := aid.Texts(report.Log); log != row.log || got[0] != row.want || report.End != api.Over {
			t.Errorf("P10.1 to P10.4: %v behind %v:\n got %v: %s\nwant %v: %s", row.c, row.first, got[0], log, row.want, row.log)
		}
	}
}

// TestAskedWrongly: what is refused ahead of all accesses.
func TestAskedWrongly(t *testing.T) {
	a := quiet("A")
	var calls []call
	for _, n := range times() {
		if n < 0 || n > api.MaxTime {
			calls = append(calls, sets(n, a))
		}
		if n < 0 {
			calls = append(calls, advances(n))
		}
		calls = append(calls, sets(n, nil))
	}
	for _, slot := range []int{-1, 16, 17, -2, math.MaxInt, math.MinInt, 1 << 32, -1 << 32, 255, 256} {
		calls = append(calls, stops(slot, 2))
	}
	for _, ring := range []int64{0, 1, 3, 4, 5, 7, 8, -1, -2, -3, -4, -6, math.MinInt64, math.MinInt64 + 2, math.MaxInt64, math.MaxInt64 - 2, -1<<32 + 2} {
		calls = append(calls, stops(0, ring), stops(15, ring), stops(16, ring))
	}
	for what, first := range map[string][]call{"new": nil, "with timers": fills(16, 9), "that are used up": append(fills(16, 9), advances(9)), "busy": {sets(0, fallen("B")), advances(0)}} {
		for _, c := range calls {
			p, want := newClock(), wrong
			if c.op == stop {
				want = no
			}
			makes(p, nil, first...)
			report, got := alone(p, c)
			if len(report.Log) != 0 || got[0] != want || do(p, nil, c) != want {
				t.Errorf("P10.2 to P10.4: of a clock %s: %v: %v: %s", what, c, got[0], aid.Texts(report.Log))
			}
			as := plain{}
			for _, x := range first {
				as, _ = does(as, x)
			}
			if l := tells(); !asPlain(as, l, makes(p, nil, l...)) {
				t.Errorf("R2: of a clock %s: %v has changed something", what, c)
			}
		}
	}
}

// TestTimes: how far now goes, wherever it is; and which dues there are.
func TestTimes(t *testing.T) {
	for _, n := range times() {
		for _, d := range times() {
			if n < 0 || d < 0 {
				continue
			}
			p := newClock()
			first, then := later(0, n), later(later(0, n), d)
			want := []answer{rung(0, ""), at(first), rung(0, ""), at(then), rung(0, ""), at(then)}
			if got := makes(p, nil, advances(n), looks, advances(d), looks, advances(0), looks); !slices.Equal(got, want) {
				t.Errorf("P10.4: %d, then %d: %v, not %v", n, d, got, want)
			}
		}
	}
	for _, due := range times() {
		if due < 0 || due > api.MaxTime {
			continue
		}
		calls, want := []call{sets(due, quiet("A"))}, []answer{laid(0, 2)}
		if due > 0 {
			calls, want = append(calls, advances(due-1), advances(0)), append(want, rung(0, ""), rung(0, ""))
		}
		calls = append(calls, advances(1), advances(1))
		if got := makes(newClock(), nil, calls...); !slices.Equal(got, append(want, rung(1, "A "), rung(0, ""))) {
			t.Errorf("P10.4: a due of %d: %v", due, got)
		}
	}
}

// TestInOrder: timers ring in the order of their dues, those of one due in that of their slots; each once; those of later dues do not.
func TestInOrder(t *testing.T) {
	for seed := range int64(3000) {
		r := rand.New(rand.NewSource(seed))
		p := newClock()
		type one struct {
			due  int64
			name string
		}
		var l []one
		for i := range r.Intn(17) {
			l = append(l, one{aid.Some(r.Intn, []int64{0, 1, 2, 3, 4, 5, 6, 7, 8, 9, 1 << 40, 1 << 62}), string(rune('a' + i))})
			do(p, nil, sets(l[i].due, quiet(l[i].name)))
		}
		slices.SortStableFunc(l, func(a, b one) int { return cmp.Compare(a.due, b.due) })
		n := int64(0)
		for _, d := range []int64{int64(r.Intn(4)), int64(r.Intn(10)), 1 << 40, 1 << 62} {
			n = later(n, d)
			want := rung(0, "")
			for len(l) > 0 && l[0].due <= n {
				want.heard += l[0].name + " "
				want.n++
				l = l[1:]
			}
			if got := do(p, nil, advances(d)); got != want {
				t.Fatalf("P10.4: seed %d: to %d: %v, not %v", seed, n, got, want)
			}
		}
	}
}

// TestMost: in one Advance 64 timers ring at most; the others do in the next ones.
func TestMost(t *testing.T) {
	for _, row := range []struct {
		what  string
		first []call
		want  []int64 // how many ring in Advances of 0, one behind another
	}{
		{"63 in a row", []call{sets(0, chain("A", 63, 0))}, []int64{63, 0}},
		{"64 in a row", []call{sets(0, chain("A", 64, 0))}, []int64{64, 0}},
		{"65 in a row", []call{sets(0, chain("A", 65, 0))}, []int64{64, 1, 0}},
		{"130 in a row", []call{sets(0, chain("A", 130, 0))}, []int64{64, 64, 2, 0}},
		{"four rows", []call{sets(0, chain("A", 20, 0)), sets(0, chain("B", 20, 0)), sets(0, chain("C", 20, 0)), sets(0, chain("D", 20, 0))}, []int64{64, 16, 0}},
		{"rows in all slots, the first of which finds no slot", slices.Repeat([]call{sets(0, chain("A", 4, 0))}, 16), []int64{61, 0}},
		{"rows in all slots but one", slices.Repeat([]call{sets(0, chain("A", 5, 0))}, 15), []int64{64, 11, 0}},
		{"for good", []call{sets(0, endless("A", 0))}, []int64{64, 64, 64}},
		{"for good, two of them", []call{sets(0, endless("A", 0)), sets(0, endless("B", 0))}, []int64{64, 64, 64}},
		{"none of a later due", []call{sets(0, chain("A", 9, 1))}, []int64{1, 0}},
	} {
		p := newClock()
		makes(p, nil, row.first...)
		for i, want := range row.want {
			if got := do(p, nil, advances(0)); got.n != want || got.e != api.OK || got.fell != "" {
				t.Errorf("P10.4: %s: the Advance number %d: %v, not %d", row.what, i, got, want)
			}
		}
		w := newWorld(row.first, [][]call{slices.Repeat([]call{advances(0)}, len(row.want))})
		if w.run(t, nil, api.MaxTurns); t.Failed() {
			t.Fatalf("P10.4: %s", row.what)
		}
		for i, got := range w.threads.Got[0] {
			if got.n != row.want[i] {
				t.Errorf("P10.4: %s, by a thread: %v", row.what, w.threads.Got[0])
			}
		}
	}
}

// TestOneTooMany: where all slots are used a Set is refused, again and again, and takes nothing from those that are set; as soon as one is free it is used.
func TestOneTooMany(t *testing.T) {
	p := newClock()
	states := frees(16)
	for i := range states {
		states[i] = 2
	}
	makes(p, nil, fills(16, 9)...)
	for round := range 40 {
		for range 20 {
			report, got := alone(p, sets(int64(round), quiet("too many")))
			if aid.Texts(report.Log) != loads(0, states...) || got[0] != full || do(p, nil, sets(9, quiet("too many"))) != full {
				t.Fatalf("P10.2: round %d: %v: %s", round, got, aid.Texts(report.Log))
			}
		}
		i := round * 7 % 16
		if got := makes(p, nil, stops(i, states[i]), sets(9, quiet("f"+strconv.Itoa(i)))); !slices.Equal(got, []answer{yes, laid(i, states[i]+4)}) {
			t.Fatalf("P10.2, P10.3: round %d: %v", round, got)
		}
		states[i] += 4
	}
	want := ""
	for i := range 16 {
		want += "f" + strconv.Itoa(i) + " "
	}
	if got := do(p, nil, advances(9)); got != rung(16, want) {
		t.Errorf("P10.4: %v", got)
	}
}

// TestManyUses: a slot's numbers are no other timer's, however often it is used up.
func TestManyUses(t *testing.T) {
	c, n := clock.New(), 0
	f := func(*gate.Thread) { n++ }
	was := timer(0, -2)
	for i := range 1 << 17 {
		x, e := c.Set(nil, 0, f)
		if x != timer(0, was.Ring+4) || e != api.OK {
			t.Fatalf("P10.2: behind %d uses: %v, %d", i, x, e)
		}
		if c.Stop(nil, was) {
			t.Fatalf("P10.3: behind %d uses: it stops the timer ahead of that", i)
		}
		if i%2 == 0 && !c.Stop(nil, x) || c.Stop(nil, timer(0, x.Ring+4)) {
			t.Fatalf("P10.3: behind %d uses", i)
		}
		if k, e := c.Advance(nil, 0); k != i%2 || e != api.OK || n != (i+1)/2 {
			t.Fatalf("P10.4: behind %d uses: %d, %d; %d ring", i, k, e, n)
		}
		was = x
	}
}

// TestFreeAlone: random calls of one goroutine by threads that do not live, now and then by one that does, held against a plain clock.
func TestFreeAlone(t *testing.T) {
	threads := aid.FreeThreads()
	met := map[string]int{}
	for seed := range int64(4000) {
		r := rand.New(rand.NewSource(seed))
		m := &maker{Rand: r, ops: []int{now, set, set, set, set, stop, stop, advance, advance}}
		p, as := newClock(), plain{}
		var made []clock.Timer
		for range 50 {
			c := m.call(0)
			if c.op == stop && len(made) > 0 && r.Intn(3) > 0 {
				c.timer = aid.Some(r.Intn, made)
			}
			var got, want answer
			as, want = does(as, c)
			if r.Intn(4) == 0 {
				_, x := alone(p, c)
				got = x[0]
			} else {
				got = do(p, aid.Some(r.Intn, threads), c)
			}
			if got != want {
				t.Fatalf("P10.1 to P10.4: seed %d: %v answers %v, not %v: %+v", seed, c, got, want, as)
			}
			if c.op == set && want.e == api.OK {
				made = append(made, want.timer)
			}
			met[[]string{"Now", "Set", "Stop", "Advance"}[c.op]+map[bool]string{true: ": done", false: ": refused"}[want.e == api.OK && (c.op != stop || want.ok)]]++
			met["rung"] += int(want.n) * c.op / advance
		}
		if calls := tells(); !asPlain(as, calls, makes(p, nil, calls...)) {
			t.Fatalf("P10.1 to P10.4: seed %d: at the end it is not %+v", seed, as)
		}
	}
	for _, what := range []string{"Now: done", "Set: done", "Set: refused", "Stop: done", "Stop: refused", "Advance: done", "Advance: refused", "rung"} {
		if met[what] < 3000 {
			t.Errorf("the calls are no good: %s in %v", what, met)
		}
	}
}

// TestNone: clocks that are none, by threads of every kind: no access, and nothing is called.
func TestNone(t *testing.T) {
	var null *clock.Clock
	asks := func(who string, th *gate.Thread) {
		for what, c := range map[string]*clock.Clock{"nil": null, "made by no call": {}, "made by new": new(clock.Clock)} {
			p := &played{Clock: c}
			for _, n := range times() {
				for _, b := range []*bell{nil, fallen("A")} {
					calls := []call{looks, sets(n, b), stops(0, 2), stops(0, n), stops(-1, 2), advances(n), sets(1, b), advances(n), looks}
					none := answer{e: api.ErrNil}
					want := []answer{at(0), none, no, no, no, none, none, none, at(0)}
					if got := makes(p, th, calls...); !slices.Equal(got, want) {
						t.Errorf("R3: %s, by %s: %v: %v", what, who, calls, got)
					}
				}
			}
		}
	}
	for _, f := range aid.Idle(asks) {
		t.Errorf("R3: %s", f)
	}
}

// TestNotLiving: a call that is handed a thread that does not live makes no access of the thread in whose goroutine it is, nor do the bells that ring in it.
func TestNotLiving(t *testing.T) {
	for what, th := range aid.NotLiving() {
		p := newClock()
		var got []answer
		r := gate.Run(nil, 9, func(*gate.Thread) {
			got = makes(p, th, looks, sets(3, busies("A", looks, sets(9, quiet("C")), stops(1, 2), advances(1))), sets(5, quiet("B")), stops(1, 2), advances(4), looks, advances(5))
		})
		want := []answer{at(0), laid(0, 2), laid(1, 2), yes, rung(1, "A( 4 1/6 no error 14 ) "), at(4), rung(1, "C ")}
		if !slices.Equal(got, want) || len(r.Log) != 0 || r.End != api.Over {
			t.Errorf("P10.1 to P10.4: %s: %v, %+v", what, got, r)
		}
	}
}

// TestEachIsItsOwn: what is done to one clock is not seen in others, be it in the midst of an Advance.
func TestEachIsItsOwn(t *testing.T) {
	x, y, z := newClock(), newClock(), newClock()
	makes(x, nil, append(fills(16, 3), advances(2))...)
	makes(y, nil, sets(0, fallen("A")), advances(7))
	for what, p := range map[string]*played{"made ahead": z, "made behind": newClock()} {
		calls := tells()
		if _, got := alone(p, calls...); !asPlain(plain{}, calls, got) {
			t.Errorf("P10.1: %s: %v", what, got)
		}
	}
	if got := makes(x, nil, looks, advances(1), looks); got[0] != at(2) || got[1].n != 16 || got[2] != at(3) {
		t.Errorf("P10.1: %v", got)
	}
	outer, inner := clock.New(), newClock()
	var got []answer
	outer.Set(nil, 0, func(t *gate.Thread) {
		got = makes(inner, t, sets(0, quiet("A")), advances(3), looks)
	})
	if n, e := outer.Advance(nil, 1); n != 1 || e != api.OK || !slices.Equal(got, []answer{laid(0, 2), rung(1, "A "), at(3)}) || outer.Now(nil) != 1 {
		t.Errorf("P10.4: an Advance of another clock: %d, %d, %v", n, e, got)
	}
}
