package stack_test

import (
	"math"
	"math/rand"
	"slices"
	"testing"

	"treadle/aid"
	"treadle/api"
	"treadle/gate"
	"treadle/stack"
)

// TestExamples: the chapter's table, by each thread that does not live, and by one that does.
func TestExamples(t *testing.T) {
	for what, th := range aid.NotLiving() {
		examples(t, what, th)
	}
	gate.Run(nil, 999, func(th *gate.Thread) { examples(t, "one that lives", th) })
}

func examples(t *testing.T, what string, th *gate.Thread) {
	calls := []call{pops, pushes(7), pushes(8), pushes(9), pops, pushes(9), pops, pops, pops}
	want := []answer{no, okay, okay, full, popped(8), okay, popped(9), popped(7), no}
	if got := all(size{n: 2}.stack(), th, calls...); !slices.Equal(got, want) {
		t.Errorf("P8.2, P8.3: by %s: %v: %v, not %v", what, calls, got, want)
	}
}

// TestHowMany: of how many nodes there are stacks.
func TestHowMany(t *testing.T) {
	for _, n := range aid.Sizes() {
		want := api.ErrArg
		if n >= 1 && n <= 4096 {
			want = api.OK
		}
		if s, e := stack.New(n); e != want || (s != nil) != (e == api.OK) {
			t.Errorf("P8.1: of %d: %v, %d", n, s != nil, e)
		}
	}
}

// TestEachSize: a stack of each size holds so many values, and not one more, again and again.
func TestEachSize(t *testing.T) {
	for n := 1; n <= api.MaxNodes; n++ {
		of := size{n: n}
		s := of.stack()
		for round := range 2 {
			for i := range n {
				if e := s.Push(nil, int64(i)); e != api.OK {
					t.Fatalf("P8.2: of %v, round %d: the Push number %d: %d", of, round, i, e)
				}
			}
			if e := s.Push(nil, -1); e != api.ErrFull {
				t.Fatalf("P8.2: of %v, round %d: a Push too many: %d", of, round, e)
			}
			for i := n - 1; i >= 0; i-- {
				if v, ok := s.Pop(nil); v != int64(i) || !ok {
					t.Fatalf("P8.3: of %v, round %d: the value number %d: %d, %v", of, round, i, v, ok)
				}
			}
			if v, ok := s.Pop(nil); v != 0 || ok {
				t.Fatalf("P8.3: of %v, round %d: a Pop too many: %d, %v", of, round, v, ok)
			}
		}
	}
}

// TestNew: what the cells hold at first, and all that becomes of them, as the nodes are all got, and laid, and got.
func TestNew(t *testing.T) {
	for _, n := range []int{1, 2, 3, 4, 5, 63, 64, 65, 255, 256, 257, 1000, api.MaxNodes - 1, api.MaxNodes} {
		of := size{n: n}
		x, held := of.stack(), of.held()
		for _, calls := range [][]call{fills(n), empties(n), fills(n)} {
			w := of.world(x, held, [][]call{calls})
			r := gate.Run(nil, api.MaxTurns, w.threads.Bodies()...)
			ends, faults := w.threads.Ends(r, held)
			if len(faults) != 0 || r.End != api.Over || r.Turns != 7*n+1 {
				t.Fatalf("P8.1 to P8.3: of %v: %d turns: %v", of, r.Turns, faults)
			}
			held = ends
		}
	}
}

// TestTags: wherever the tags begin, they go on one by one, and round.
func TestTags(t *testing.T) {
	for _, tag := range tags() {
		for n := 1; n <= 5; n++ {
			of := size{n, tag}
			w := newWorld(of, fills(n), [][]call{goesAround(n)})
			if w.run(t, nil, api.MaxTurns); t.Failed() {
				t.Fatalf("of %v", of)
			}
		}
	}
}

// TestManyChanges: a tag is not lost, however often its list is changed.
func TestManyChanges(t *testing.T) {
	s := size{n: 1}.stack()
	for i := range int64(1 << 17) {
		if got := all(s, nil, pushes(i), pops); !slices.Equal(got, []answer{okay, popped(i)}) {
			t.Fatalf("P8.2, P8.3: the round %d: %v", i, got)
		}
	}
	r, _ := alone(s, pops, pushes(7))
	want := "0 load c0: 17179869184; 0 load c1: 17179869185; 0 load c2: 0; 0 cas c1 17179869185 17179934720: 17179869185 ok; 0 store c3 7: 131071; 0 load c0: 17179869184; 0 store c2 0: 0; 0 cas c0 17179869184 17179934721: 17179869184 ok"
	if got := aid.Texts(r.Log); got != want {
		t.Errorf("P8.2, P8.3: behind many changes: %s, not %s", got, want)
	}
}

// TestSteps: of each call, where nobody else goes between them.
func TestSteps(t *testing.T) {
	one, two := []call{pushes(7)}, []call{pushes(7), pushes(8)}
	for _, row := range []struct {
		of    size
		first []call // free, ahead of it
		c     call
		log   string
		want  answer
	}{
		{size{1, 0}, nil, pushes(7), "0 load c0: 1; 0 load c1: 0; 0 cas c0 1 65536: 1 ok; 0 store c2 7: 0; 0 load c3: 0; 0 store c1 0: 0; 0 cas c3 0 65537: 0 ok", okay},
		{size{1, 0}, one, pushes(9), "0 load c0: 65536", full},
		{size{1, 0}, one, pops, "0 load c0: 65537; 0 load c1: 0; 0 cas c0 65537 131072: 65537 ok; 0 load c2: 7; 0 load c3: 65536; 0 store c1 0: 0; 0 cas c3 65536 131073: 65536 ok", popped(7)},
		{size{1, 0}, nil, pops, "0 load c0: 0", no},
		{size{1, 0}, []call{pushes(7), pops}, pops, "0 load c0: 131072", no},
		{size{1, 0}, []call{pushes(7), pops}, pushes(9), "0 load c0: 131073; 0 load c1: 0; 0 cas c0 131073 196608: 131073 ok; 0 store c2 9: 7; 0 load c3: 131072; 0 store c1 0: 0; 0 cas c3 131072 196609: 131072 ok", okay},
		{size{2, 0}, nil, pushes(7), "0 load c0: 1; 0 load c1: 2; 0 cas c0 1 65538: 1 ok; 0 store c2 7: 0; 0 load c3: 0; 0 store c1 0: 2; 0 cas c3 0 65537: 0 ok", okay},
		{size{2, 0}, one, pushes(math.MinInt64), "0 load c0: 65538; 0 load c1: 0; 0 cas c0 65538 131072: 65538 ok; 0 store c2 -9223372036854775808: 0; 0 load c3: 65537; 0 store c1 1: 0; 0 cas c3 65537 131074: 65537 ok", okay},
		{size{2, 0}, two, pushes(9), "0 load c0: 131072", full},
		{size{2, 0}, two, pops, "0 load c0: 131074; 0 load c1: 1; 0 cas c0 131074 196609: 131074 ok; 0 load c2: 8; 0 load c3: 131072; 0 store c1 0: 1; 0 cas c3 131072 196610: 131072 ok", popped(8)},
		{size{2, 0}, []call{pushes(7), pops}, pushes(9), "0 load c0: 131073; 0 load c1: 2; 0 cas c0 131073 196610: 131073 ok; 0 store c2 9: 7; 0 load c3: 131072; 0 store c1 0: 2; 0 cas c3 131072 196609: 131072 ok", okay},
		{size{2, 0}, []call{pushes(7), pushes(8), pops, pops}, pushes(9), "0 load c0: 262145; 0 load c1: 2; 0 cas c0 262145 327682: 262145 ok; 0 store c2 9: 7; 0 load c3: 262144; 0 store c1 0: 2; 0 cas c3 262144 327681: 262144 ok", okay},
		{size{4096, 0}, nil, pushes(7), "0 load c0: 1; 0 load c1: 2; 0 cas c0 1 65538: 1 ok; 0 store c2 7: 0; 0 load c3: 0; 0 store c1 0: 2; 0 cas c3 0 65537: 0 ok", okay},
		{size{4096, 0}, fills(4096)[:4095], pushes(7), "0 load c0: 268374016; 0 load c1: 0; 0 cas c0 268374016 268435456: 268374016 ok; 0 store c2 7: 0; 0 load c3: 268374015; 0 store c1 4095: 0; 0 cas c3 268374015 268439552: 268374015 ok", okay},
		{size{4096, 0}, fills(4096)[:4096], pops, "0 load c0: 268439552; 0 load c1: 4095; 0 cas c0 268439552 268505087: 268439552 ok; 0 load c2: -5095; 0 load c3: 268435456; 0 store c1 0: 4095; 0 cas c3 268435456 268505088: 268435456 ok", popped(-5095)},
		{size{1, lastTag}, nil, pushes(7), "0 load c0: 9223372036854710273; 0 load c1: 0; 0 cas c0 9223372036854710273 -9223372036854775808: 9223372036854710273 ok; 0 store c2 7: 0; 0 load c3: 9223372036854710272; 0 store c1 0: 0; 0 cas c3 9223372036854710272 -9223372036854775807: 9223372036854710272 ok", okay},
		{size{1, lastTag}, one, pops, "0 load c0: -9223372036854775807; 0 load c1: 0; 0 cas c0 -9223372036854775807 -9223372036854710272: -9223372036854775807 ok; 0 load c2: 7; 0 load c3: -9223372036854775808; 0 store c1 0: 0; 0 cas c3 -9223372036854775808 -9223372036854710271: -9223372036854775808 ok", popped(7)},
		{size{1, lastTag}, one, pushes(7), "0 load c0: -9223372036854775808", full},
		{size{2, -1}, nil, pushes(7), "0 load c0: -65535; 0 load c1: 2; 0 cas c0 -65535 2: -65535 ok; 0 store c2 7: 0; 0 load c3: -65536; 0 store c1 0: 2; 0 cas c3 -65536 1: -65536 ok", okay},
		{size{2, -1}, nil, pops, "0 load c0: -65536", no},
		{size{2, -2}, one, pops, "0 load c0: -65535; 0 load c1: 0; 0 cas c0 -65535 0: -65535 ok; 0 load c2: 7; 0 load c3: -65534; 0 store c1 2: 0; 0 cas c3 -65534 1: -65534 ok", popped(7)},
	} {
		s := row.of.stack()
		all(s, nil, row.first...)
		report, got := alone(s, row.c)
		if log := aid.Texts(report.Log); log != row.log || got[0] != row.want || report.End != api.Over {
			t.Errorf("P8.2, P8.3: %+v behind %d calls of %v:\n got %v: %s\nwant %v: %s", row.c, len(row.first), row.of, got[0], log, row.want, row.log)
		}
	}
}

// TestFreeAlone: random calls of one goroutine by threads that do not live, now and then by one that does, held against a plain stack.
func TestFreeAlone(t *testing.T) {
	threads := aid.FreeThreads()
	met := map[string]int{}
	for seed := range int64(2000) {
		r := rand.New(rand.NewSource(seed))
		of := size{1 + r.Intn(12), aid.Some(r.Intn, tags())}
		s, as := of.stack(), of.plain()
		for i := range 120 {
			ops := [][]int{{push, push, push, pop}, {push, pop}, {push, pop, pop}}[i/20%3] // for a while more are pushed, then more are popped
			c := call{op: aid.Some(r.Intn, ops), v: aid.Some(r.Intn, aid.Values())}
			var got, want answer
			as, want = does(as, c)
			if r.Intn(4) == 0 {
				_, l := alone(s, c)
				got = l[0]
			} else {
				got = do(s, aid.Some(r.Intn, threads), c)
			}
			if got != want {
				t.Fatalf("P8.2, P8.3: seed %d: of %v %+v answers %v, not %v: %+v", seed, of, c, got, want, as)
			}
			met[[]string{"Push: ", "Pop: "}[c.op]+map[bool]string{true: "done", false: "refused"}[want.ok || c.op == push && want == okay]]++
		}
		if l := empties(of.n); !asPlain(as, l, all(s, nil, l...)) {
			t.Fatalf("P8.3: seed %d: of %v at the end there are not %+v", seed, of, as)
		}
	}
	for _, what := range []string{"Push: done", "Push: refused", "Pop: done", "Pop: refused"} {
		if met[what] < 5000 {
			t.Errorf("the calls are no good: %v", met)
		}
	}
}

// TestNone: stacks that are none, by threads of every kind: no access.
func TestNone(t *testing.T) {
	var null *stack.Stack
	asks := func(who string, th *gate.Thread) {
		for what, s := range map[string]*stack.Stack{"nil": null, "made by no call": {}, "made by new": new(stack.Stack)} {
			for _, v := range aid.Values() {
				for range 3 { // also behind a Push that was refused
					if got := all(s, th, pushes(v), pops); !slices.Equal(got, []answer{{e: api.ErrNil}, no}) {
						t.Errorf("R3: %s, by %s: Push(%d), Pop: %v", what, who, v, got)
					}
				}
			}
		}
	}
	for _, f := range aid.Idle(asks) {
		t.Errorf("R3: %s", f)
	}
}

// TestNotLiving: a call that is handed a thread that does not live makes no access of the thread in whose goroutine it is.
func TestNotLiving(t *testing.T) {
	for what, th := range aid.NotLiving() {
		s := size{n: 2}.stack()
		var got []answer
		r := gate.Run(nil, 9, func(*gate.Thread) {
			got = all(s, th, pushes(5), pushes(6), pushes(7), pops, pops, pops, pushes(8))
		})
		if !slices.Equal(got, []answer{okay, okay, full, popped(6), popped(5), no, okay}) || len(r.Log) != 0 || r.End != api.Over {
			t.Errorf("P8.2, P8.3: %s: %v, %+v", what, got, r)
		}
	}
}

// TestRefused: a Push onto a full stack, a Pop from an empty one change nothing, however often, and make one access.
func TestRefused(t *testing.T) {
	for _, of := range []size{{1, 0}, {2, -1}, {64, 7}, {api.MaxNodes, lastTag}} {
		s := of.stack()
		refused := func(c call, want answer) {
			t.Helper()
			r, was := alone(s, c)
			for range of.n + 3 {
				if got := do(s, nil, c); got != want {
					t.Fatalf("R2: of %v: %+v: %v", of, c, got)
				}
			}
			again, is := alone(s, c)
			if was[0] != want || is[0] != want || len(r.Log) != 1 || !aid.Same(r, again) {
				t.Errorf("R2: of %v: %+v: %+v, behind many %+v", of, c, r, again)
			}
		}
		for range 3 {
			refused(pops, no)
			for i := range of.n {
				if got := do(s, nil, pushes(int64(i))); got != okay {
					t.Fatalf("P8.2: of %v: the Push number %d: %v", of, i, got)
				}
			}
			refused(pushes(-5), full)
			for i := range of.n {
				if got := do(s, nil, pops); got != popped(int64(of.n-1-i)) {
					t.Fatalf("P8.3: of %v: the Pop number %d: %v", of, i, got)
				}
			}
		}
	}
}

// TestEachIsItsOwn: what is done to one stack is not seen in others.
func TestEachIsItsOwn(t *testing.T) {
	of := size{n: 3}
	x, y := of.stack(), of.stack()
	all(x, nil, pushes(1), pushes(2), pushes(3), pops)
	for what, z := range map[string]*stack.Stack{"made ahead": y, "made behind": of.stack()} {
		w := of.world(z, of.held(), [][]call{goesAround(of.n)})
		w.run(t, nil, api.MaxTurns)
		if got := w.threads.Got[0]; !asPlain(of.plain(), goesAround(of.n), got) {
			t.Errorf("P8.1: %s: %v", what, got)
		}
	}
	if got := all(x, nil, pops, pops, pops); !slices.Equal(got, []answer{popped(2), popped(1), no}) {
		t.Errorf("P8.1: %v", got)
	}
}
