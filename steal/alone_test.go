package steal_test

import (
	"math"
	"math/rand"
	"slices"
	"testing"

	"treadle/aid"
	"treadle/api"
	"treadle/deque"
	"treadle/gate"
	"treadle/steal"
)

// none, bare: deques that are none.
var none, bare = spot{n: null}, spot{n: unmade}

// TestExamples: the chapter's table, and rows of calls by one, by each thread that does not live, and by one that does.
func TestExamples(t *testing.T) {
	for _, f := range aid.By(func(who string, th *gate.Thread) { examples(t, who, th) }) {
		t.Errorf("R1: %s", f)
	}
}

func examples(t *testing.T, who string, th *gate.Thread) {
	two, three := []int{0, 1}, []int{0, 1, 2}
	for _, row := range []struct {
		of    []spot
		calls []call
		want  []answer
	}{
		{[]spot{holds(7, 8), none, holds(9)}, []call{ones(1, three...), ones(1, three...), ones(1, three...), ones(1, three...)}, []answer{got(2, 9), got(0, 7), got(0, 8), nothing}}, // the chapter's
		{[]spot{holds(7, 8, 9), bare}, []call{somes(2, 1, two...), somes(2, 1, two...), somes(2, 1, two...)}, []answer{all(0, 7, 8), all(0, 9), nothing}},                             // the chapter's
		{[]spot{holds(7, 8, 9), none}, []call{somes(2, 1, two...), somes(2, 1, two...), somes(2, 1, two...)}, []answer{all(0, 7, 8), all(0, 9), nothing}},
		{[]spot{holds(), holds(5), holds(6)}, []call{ones(0, three...), ones(0, three...), ones(0, three...)}, []answer{got(1, 5), got(2, 6), nothing}},
		{[]spot{holds(4), holds(5), holds(6)}, []call{ones(0, three...), ones(1, three...), ones(2, three...), ones(1, three...)}, []answer{got(1, 5), got(2, 6), got(0, 4), nothing}},
		{[]spot{holds(4), holds(), holds()}, []call{ones(0, three...), somes(9, 0, three...), ones(2, three...), ones(2, three...)}, []answer{nothing, nothing, got(0, 4), nothing}},
		{[]spot{holds(0), holds(0, -1)}, []call{ones(1, two...), ones(0, two...), ones(0, two...), ones(0, two...)}, []answer{got(0, 0), got(1, 0), got(1, -1), nothing}},
		{[]spot{holds(1, 2), holds(3, 4), holds(5, 6)}, []call{somes(9, 0, three...), somes(9, 0, three...), somes(9, 0, three...), pops(0), ones(2, three...)}, []answer{all(1, 3, 4), all(2, 5, 6), nothing, popped(2), got(0, 1)}},
		{[]spot{holds(1, 2), holds(3, 4), holds(5, 6)}, []call{somes(1, 1, three...), somes(1, 1, three...), somes(1, 1, three...), somes(1, 1, three...), somes(1, 1, three...)}, []answer{all(2, 5), all(2, 6), all(0, 1), all(0, 2), nothing}},
		{[]spot{holds(), holds(3)}, []call{somes(2, 0, two...), pushes(1, 4), pushes(1, 5), pops(1), pushes(1, 6), somes(2, 0, two...), pops(1)}, []answer{all(1, 3), okay, okay, popped(5), okay, all(1, 4, 6), no}},
	} {
		if l := newDeques(row.of...).makes(th, row.calls...); !slices.Equal(l, row.want) {
			t.Errorf("P23.2, P23.3: by %s: of %v %+v: %v, not %v", who, row.of, row.calls, l, row.want)
		}
	}
}

// TestNothing: what is told beside nothing, as it is, without the names that the other tests have for it.
func TestNothing(t *testing.T) {
	d := holds(7).deque()
	for what, row := range map[string]struct {
		l  []*deque.Deque
		me int
	}{
		"all others are empty": {[]*deque.Deque{d, holds().deque()}, 0},
		"no others":            {[]*deque.Deque{d}, 0},
		"no deques":            {nil, 0},
		"no list's place":      {[]*deque.Deque{d, d}, 2},
		"below the list":       {[]*deque.Deque{d, d}, -1},
		"too many":             {slices.Repeat([]*deque.Deque{d}, 65), 0},
	} {
		if x, from, ok := steal.One(nil, row.l, row.me); x != 0 || from != -1 || ok {
			t.Errorf("P23.2: %s: %d, %d, %v", what, x, from, ok)
		}
		if l, from := steal.Some(nil, row.l, row.me, 3); len(l) != 0 || from != -1 {
			t.Errorf("P23.3: %s: %v, %d", what, l, from)
		}
	}
	for most := range 5 {
		if l, from := steal.Some(nil, []*deque.Deque{nil, d}, 0, -most); len(l) != 0 || from != -1 {
			t.Errorf("P23.3: at most %d: %v, %d", -most, l, from)
		}
	}
	if x, from, ok := steal.One(nil, []*deque.Deque{nil, d}, 0); x != 7 || from != 1 || !ok {
		t.Errorf("P23.2: behind that: %d, %d, %v", x, from, ok)
	}
}

// refused: calls that are none of a list of 0, 1, 2, 3, 64, or more deques than there may be; each of them has something.
func refused(l deques) (calls []call) {
	for _, n := range []int{0, 1, 2, 3, 64, 65, 66, 128, 1 << 16} {
		numbers := make([]int, n)
		for i := range numbers {
			numbers[i] = i % len(l)
		}
		for _, me := range []int{0, 1, n - 2, n - 1, n, n + 1, -1, -2, -n, n - 64, n + 64, 63, 64, 65, math.MaxInt, math.MinInt, math.MaxInt32, math.MinInt32, 1 << 32, 1<<32 + 1, -1 << 32} {
			if is := len(others(n, me)) > 0; !is {
				calls = append(calls, ones(me, numbers...))
			}
			for _, most := range []int{1, 2, 64, math.MaxInt, 0, -1, -2, math.MinInt, math.MinInt32, -1 << 32} {
				if is := len(others(n, me)) > 0; !is || most < 1 {
					calls = append(calls, somes(most, me, numbers...))
				}
			}
		}
	}
	return calls
}

// TestRefused: lists of no deque, of one, and of more than there may be; workers that are none of a list's; most below 1: by threads of every kind no access, and nothing is changed.
func TestRefused(t *testing.T) {
	l := newDeques(holds(1, 2, 3), holds(4, 5), holds(6))
	calls := refused(l)
	for _, f := range aid.Idle(func(who string, th *gate.Thread) {
		for _, c := range calls {
			if a := l.do(th, c); a != nothing {
				t.Errorf("P23.2, P23.3: by %s: of %d deques, me %d, most %d: %v", who, len(c.l), c.me, c.most, a)
			}
		}
	}) {
		t.Errorf("P23.2, P23.3: %s", f)
	}
	for i, want := range [][]int64{{1, 2, 3}, {4, 5}, {6}} {
		if row := emptied(l[i]); !slices.Equal(row, want) {
			t.Errorf("R2: behind that the deque %d has %v, not %v", i, row, want)
		}
	}
	if len(calls) < 1000 {
		t.Errorf("%d calls", len(calls))
	}
}

// TestNone: deques that are nil, or that New did not make: where there are no others, no access is made, by threads of every kind; among others they are passed by.
func TestNone(t *testing.T) {
	l := newDeques(holds(7, 8), none, bare)
	alone := []call{ones(0, 0, null), ones(0, 0, unmade), ones(1, null, 0, unmade), ones(0, null, null), ones(1, unmade, unmade), ones(2, null, unmade, 0, unmade, null), ones(63, append(slices.Repeat([]int{unmade}, 63), 0)...), somes(1, 0, 0, null), somes(9, 2, unmade, null, null), somes(math.MaxInt, 0, slices.Repeat([]int{null}, 64)...)}
	for _, f := range aid.Idle(func(who string, th *gate.Thread) {
		for _, c := range alone {
			for range 3 {
				if a := l.do(th, c); a != nothing {
					t.Errorf("P23.2, P23.3: by %s: %+v: %v", who, c, a)
				}
			}
		}
	}) {
		t.Errorf("P23.2, P23.3: %s", f)
	}
	refused, _ := deque.New(3, 0)
	for n := 2; n <= 64; n++ {
		for at := 1; at < n; at++ {
			list := make([]*deque.Deque, n)
			for i := range list {
				list[i] = []*deque.Deque{nil, {}, refused}[i%3]
			}
			list[at] = holds(7, 8).deque()
			var x int64
			var from int
			var ok bool
			r := gate.Run(nil, 99, func(t *gate.Thread) { x, from, ok = steal.One(t, list, 0) })
			if s := aid.Texts(r.Log); x != 7 || from != at || !ok || s != "0 load c0: 0; 0 load c1: 2; 0 load c2: 7; 0 cas c0 0 1: 0 ok" {
				t.Fatalf("P23.2: of %d, of which the number %d is one: %d, %d, %v: %s", n, at, x, from, ok, s)
			}
			if row, from := steal.Some(nil, list, 0, 2); !slices.Equal(row, []int64{8}) || from != at {
				t.Fatalf("P23.3: of %d, of which the number %d is one: %v, %d", n, at, row, from)
			}
		}
	}
}

// TestEachSize: lists of each length, seen from each worker: what is got is the first's who has something, whoever has something behind him, and his own is left alone.
func TestEachSize(t *testing.T) {
	for n := 1; n <= api.MaxThreads; n++ {
		l := newDeques(slices.Repeat([]spot{{n: 2}}, n)...)
		for me := range n {
			ring := others(n, me)
			l[me].Push(nil, 99)
			for _, at := range slices.Backward(ring) {
				l[at].Push(nil, int64(at))
				l[at].Push(nil, int64(-at))
				if x, from, ok := steal.One(nil, l, me); x != int64(at) || from != at || !ok {
					t.Fatalf("P23.2: of %d, for %d, where %d is the first: %d, %d, %v", n, me, at, x, from, ok)
				}
			}
			for _, at := range ring {
				if row, from := steal.Some(nil, l, me, 3); !slices.Equal(row, []int64{int64(-at)}) || from != at {
					t.Fatalf("P23.3: of %d, for %d, where %d is the first: %v, %d", n, me, at, row, from)
				}
			}
			x, from, ok := steal.One(nil, l, me)
			row, by := steal.Some(nil, l, me, 3)
			if x != 0 || from != -1 || ok || len(row) != 0 || by != -1 || !slices.Equal(emptied(l[me]), []int64{99}) {
				t.Fatalf("P23.2, P23.3: of %d, for %d, who alone has something: %d, %d, %v; %v, %d", n, me, x, from, ok, row, by)
			}
		}
	}
}

// TestMost: so many values as are asked, or as there are, all of one deque.
func TestMost(t *testing.T) {
	for _, n := range []int{1, 2, 3, 63, 64, 65, 1000, api.MaxRing} {
		for _, most := range []int{1, 2, 3, 62, 63, 64, 65, 66, 999, 1000, 1001, api.MaxRing - 1, api.MaxRing, api.MaxRing + 1, 1 << 31, 1 << 32, 1<<32 + 1, math.MaxInt} {
			d, _ := deque.New(api.MaxRing, math.MaxInt64-5)
			var want []int64
			for i := range int64(n) {
				d.Push(nil, 3*i-7)
				want = append(want, 3*i-7)
			}
			l := []*deque.Deque{holds(1, 2).deque(), d, holds(1, 2).deque()}
			row, from := steal.Some(nil, l, 0, most)
			if !slices.Equal(row, want[:min(n, most)]) || from != 1 || l[0].Len(nil) != 2 || l[2].Len(nil) != 2 {
				t.Fatalf("P23.3: of %d at most %d: %d, of %d", n, most, len(row), from)
			}
			if left := emptied(d); !slices.Equal(left, want[min(n, most):]) {
				t.Fatalf("P23.3: of %d at most %d: then there are %d left", n, most, len(left))
			}
		}
	}
}

// TestSteps: the accesses of each call, where nobody else goes between them.
func TestSteps(t *testing.T) {
	const four = "0 load c0: 0; 0 load c1: 2; 0 load c2: 7; 0 cas c0 0 1: 0 ok"
	three := []int{0, 1, 2}
	for _, row := range []struct {
		of   []spot
		c    call
		log  string
		want answer
	}{
		{[]spot{holds(1), holds(7, 8), holds(2)}, ones(0, three...), four, got(1, 7)},
		{[]spot{holds(1), holds(7, 8), holds(2)}, somes(1, 0, three...), four, all(1, 7)},
		{[]spot{holds(1), holds(7, 8), holds(2)}, somes(2, 0, three...), four + "; 0 load c0: 1; 0 load c1: 2; 0 load c3: 8; 0 cas c0 1 2: 1 ok", all(1, 7, 8)},
		{[]spot{holds(1), holds(7, 8), holds(2)}, somes(3, 0, three...), four + "; 0 load c0: 1; 0 load c1: 2; 0 load c3: 8; 0 cas c0 1 2: 1 ok; 0 load c0: 2; 0 load c1: 2", all(1, 7, 8)},
		{[]spot{holds(1), holds(7, 8), holds(2)}, somes(9, 0, three...), four + "; 0 load c0: 1; 0 load c1: 2; 0 load c3: 8; 0 cas c0 1 2: 1 ok; 0 load c0: 2; 0 load c1: 2", all(1, 7, 8)},
		{[]spot{holds(1), holds(), holds(2, 3)}, ones(0, three...), "0 load c0: 0; 0 load c1: 0; 0 load c2: 0; 0 load c3: 2; 0 load c4: 2; 0 cas c2 0 1: 0 ok", got(2, 2)},
		{[]spot{holds(1), holds(), holds(2, 3)}, somes(2, 0, three...), "0 load c0: 0; 0 load c1: 0; 0 load c2: 0; 0 load c3: 2; 0 load c4: 2; 0 cas c2 0 1: 0 ok; 0 load c2: 1; 0 load c3: 2; 0 load c5: 3; 0 cas c2 1 2: 1 ok", all(2, 2, 3)},
		{[]spot{holds(1), holds(), holds(2, 3)}, ones(2, three...), "0 load c0: 0; 0 load c1: 1; 0 load c2: 1; 0 cas c0 0 1: 0 ok", got(0, 1)},
		{[]spot{holds(), holds(1, 2), holds()}, ones(1, three...), "0 load c0: 0; 0 load c1: 0; 0 load c2: 0; 0 load c3: 0", nothing},
		{[]spot{holds(), holds(1, 2), holds()}, somes(5, 1, three...), "0 load c0: 0; 0 load c1: 0; 0 load c2: 0; 0 load c3: 0", nothing},
		{[]spot{{n: 2, from: -5, has: []int64{4}}, none, {n: 2, from: math.MaxInt64}}, ones(1, three...), "0 load c0: 9223372036854775807; 0 load c1: 9223372036854775807; 0 load c2: -5; 0 load c3: -4; 0 load c4: 4; 0 cas c2 -5 -4: -5 ok", got(0, 4)},
		{[]spot{{n: 2, from: -5, has: []int64{4}}, bare, {n: 2, from: math.MaxInt64, has: []int64{0, 1}}}, somes(9, 1, three...), "0 load c0: 9223372036854775807; 0 load c1: -9223372036854775807; 0 load c2: 0; 0 cas c0 9223372036854775807 -9223372036854775808: 9223372036854775807 ok; " +
			"0 load c0: -9223372036854775808; 0 load c1: -9223372036854775807; 0 load c3: 1; 0 cas c0 -9223372036854775808 -9223372036854775807: -9223372036854775808 ok; 0 load c0: -9223372036854775807; 0 load c1: -9223372036854775807", all(2, 0, 1)},
		{[]spot{holds(7, 8)}, ones(0, 0), "", nothing},
		{[]spot{holds(7, 8)}, ones(0, 0, 0), four, got(1, 7)},    // his own, at another's place, too
		{[]spot{holds(7, 8)}, ones(1, 0, 0, 0), four, got(2, 7)}, // one that is there twice
		{[]spot{holds(), holds(7)}, ones(3, 1, 0, 0, 1), "0 load c0: 0; 0 load c1: 1; 0 load c2: 7; 0 cas c0 0 1: 0 ok", got(0, 7)},
		{[]spot{holds()}, ones(0, 0, 0, 0), "0 load c0: 0; 0 load c1: 0; 0 load c0: 0; 0 load c1: 0", nothing},
		{[]spot{holds(7, 8)}, ones(0, slices.Repeat([]int{0}, 64)...), four, got(1, 7)},
		{[]spot{holds(7, 8)}, ones(63, slices.Repeat([]int{0}, 64)...), four, got(0, 7)},
		{[]spot{holds(7, 8)}, ones(0, slices.Repeat([]int{0}, 65)...), "", nothing},
		{[]spot{holds(7, 8)}, somes(0, 0, 0, 0), "", nothing},
		{[]spot{holds(7, 8)}, somes(1, 2, 0, 0), "", nothing},
	} {
		r, l := newDeques(row.of...).alone(row.c)
		if s := aid.Texts(r.Log); s != row.log || l[0] != row.want || r.End != api.Over {
			t.Errorf("P23.2, P23.3: of %v %+v:\n got %v: %s\nwant %v: %s", row.of, row.c, l[0], s, row.want, row.log)
		}
	}
}

// TestFreeAlone: random calls of one goroutine by threads that do not live, now and then by one that does, held against plain deques.
func TestFreeAlone(t *testing.T) {
	threads := aid.FreeThreads()
	met := map[string]int{}
	for seed := range int64(4000) {
		m := &maker{Rand: rand.New(rand.NewSource(seed)), far: seed%4 == 0}
		of := m.plan()
		l, s := newDeques(of...), newPlain(of...)
		for range 50 {
			c, is := m.anybodys(of)
			if !is {
				continue
			}
			var a, want answer
			s, want = does(s, c)
			if m.Intn(4) == 0 {
				_, answers := l.alone(c)
				a = answers[0]
			} else {
				a = l.do(aid.Some(m.Intn, threads), c)
			}
			if a != want {
				t.Fatalf("P23.2, P23.3: seed %d: of %v %+v answers %v, not %v: %+v", seed, of, c, a, want, s)
			}
			met[[]string{"One", "Some", "Push", "Pop", "Steal"}[c.op]+map[bool]string{true: ": done", false: ": nothing"}[a.row != "" || c.op == push && a == okay]]++
		}
		for i, d := range l {
			if row := aid.Line(emptied(d)); row != s.rows[i] {
				t.Fatalf("P23.2, P23.3: seed %d: at the end the deque %d of %v has %s, not %s", seed, i, of, row, s.rows[i])
			}
		}
	}
	for _, what := range []string{"One: done", "One: nothing", "Some: done", "Some: nothing", "Push: done", "Push: nothing", "Pop: done", "Pop: nothing", "Steal: done", "Steal: nothing"} {
		if met[what] < 2000 {
			t.Errorf("the calls are no good: %v", met)
		}
	}
}

// TestShortRows: all short rows of calls, by one that lives, and free.
func TestShortRows(t *testing.T) {
	three := []int{0, 1, 2}
	for _, of := range [][]spot{{{n: 2}, {n: 2}, {n: 2}}, {holds(1), {n: 2, has: []int64{2, 3}}, none}, {holds(1, 2, 3), bare, holds(4)}} {
		for _, calls := range aid.Rows([]call{ones(0, three...), ones(1, three...), somes(2, 0, three...), somes(9, 2, three...), pushes(0, 7), pops(0)}, 4) {
			as := newPlain(of...)
			if l := newDeques(of...).makes(nil, calls...); !aid.Plainly(as, calls, l, does) {
				t.Fatalf("P23.2, P23.3: of %v %+v: %v", of, calls, l)
			}
			if r, l := newDeques(of...).alone(calls...); !aid.Plainly(as, calls, l, does) || r.End != api.Over {
				t.Fatalf("P23.2, P23.3: of %v %+v, by one that lives: %v", of, calls, l)
			}
		}
	}
}

// TestNotLiving: a call that is handed a thread that does not live makes no access of the thread in whose goroutine it is.
func TestNotLiving(t *testing.T) {
	three := []int{0, 1, 2}
	calls := []call{ones(1, three...), somes(2, 1, three...), somes(2, 1, three...), ones(0, three...), ones(1, three...)}
	want := []answer{got(2, 9), all(0, 5, 6), all(0, 7), nothing, nothing}
	for what, th := range aid.NotLiving() {
		l := newDeques(holds(5, 6, 7), none, holds(9))
		var answers []answer
		r := gate.Run(nil, 9, func(*gate.Thread) { answers = l.makes(th, calls...) })
		if !slices.Equal(answers, want) || len(r.Log) != 0 || r.End != api.Over {
			t.Errorf("P23.2, P23.3: %s: %v, %+v", what, answers, r)
		}
	}
}
