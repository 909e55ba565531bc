package gate_test

import (
	"math"
	"runtime"
	"slices"
	"sync/atomic"
	"testing"
	"time"

	"treadle/api"
	"treadle/gate"
)

// TestExamples: the rows of the chapter's table that Run tells.
func TestExamples(t *testing.T) {
	for _, row := range []struct {
		what   string
		bodies func(x, y *atomic.Int64) []body
		picks  []int
		most   int
		told   string
	}{
		{"none", func(x, y *atomic.Int64) []body { return nil }, nil, 9,
			"end 1 0 | log  | went | ready | left  | fell "},
		{"two adds", func(x, y *atomic.Int64) []body { return []body{add(x, 1), add(x, 1)} }, []int{1}, 9,
			"end 1 2 | log 1 A 0 1 0: 0 1; 0 A 0 1 0: 1 2 | went 1 0 | ready 2 1 | left  | fell "},
		{"two cas", func(x, y *atomic.Int64) []body { return []body{cas(x, 0, 5), cas(x, 0, 6)} }, []int{-1}, 9,
			"end 1 2 | log 1 C 0 0 6: 0 6 ok; 0 C 0 0 5: 6 6 | went 1 0 | ready 2 1 | left  | fell "},
		{"a sleeper is woken", func(x, y *atomic.Int64) []body { return []body{park(x, 0), all(load(y), store(x, 7))} }, nil, 9,
			"end 1 3 | log 1 L 0 0 0: 0 0; 1 S 1 7 0: 0 7; 0 P 1 0 0: 7 7 | went 1 1 0 | ready 1 1 1 | left  | fell "},
		{"a sleeper is not woken", func(x, y *atomic.Int64) []body { return []body{park(x, 0), load(x)} }, nil, 9,
			"end 3 1 | log 1 L 0 0 0: 0 0 | went 1 | ready 1 | left 0 P 0 0 0: 0 0 | fell "},
		{"cut", func(x, y *atomic.Int64) []body { return []body{park(y, 0), all(load(x), load(x))} }, []int{0}, 1,
			"end 2 1 | log 1 L 0 0 0: 0 0 | went 1 | ready 1 | left 0 P -1 0 0: 0 0; 1 L 0 0 0: 0 0 | fell "},
		{"a new thread", func(x, y *atomic.Int64) []body { return []body{all(marks(10, 3), begins(load(x)), marks(10, 4))} }, nil, 9,
			"end 1 2 | log 0 mark -1 10 3: 0 0; 0 Go -1 0 0: 0 1; 0 mark -1 10 4: 0 0; 1 L 0 0 0: 0 0 | went 0 1 | ready 1 1 | left  | fell "},
		{"one falls", func(x, y *atomic.Int64) []body {
			return []body{func(t *gate.Thread) { defer load(x)(t); panic("falls") }, store(x, 2)}
		}, []int{1}, 9,
			"end 1 2 | log 1 S 0 2 0: 0 2; 0 L 0 0 0: 2 2 | went 1 0 | ready 2 1 | left  | fell 0 "},
	} {
		var x, y atomic.Int64
		if got := told(gate.Run(row.picks, row.most, row.bodies(&x, &y)...)); got != row.told {
			t.Errorf("P1.1: %s:\n got %s\nwant %s", row.what, got, row.told)
		}
	}
}

// TestWhatAnAccessDoes: each op, by what it answers, what it leaves, and its entry.
func TestWhatAnAccessDoes(t *testing.T) {
	for _, row := range []struct {
		op              int8
		x, arg, next    int64
		now             int64
		ok              bool
		logArg, logNext int64
	}{
		{op: api.OpLoad, x: 4, arg: 9, next: 8, now: 4},
		{op: api.OpStore, x: 4, arg: 9, next: 8, now: 9, logArg: 9},
		{op: api.OpCas, x: 4, arg: 4, next: 8, now: 8, ok: true, logArg: 4, logNext: 8},
		{op: api.OpCas, x: 4, arg: 4, next: 4, now: 4, ok: true, logArg: 4, logNext: 4},
		{op: api.OpCas, x: 4, arg: 5, next: 8, now: 4, logArg: 5, logNext: 8},
		{op: api.OpAdd, x: 4, arg: -9, next: 8, now: -5, logArg: -9},
		{op: api.OpAdd, x: math.MaxInt64, arg: 1, now: math.MinInt64, logArg: 1},
		{op: api.OpAdd, x: math.MinInt64, arg: -1, now: math.MaxInt64, logArg: -1},
		{op: api.OpSwap, x: 4, arg: 9, next: 8, now: 9, logArg: 9},
		{op: api.OpSwap, x: 4, arg: 4, now: 4, logArg: 4},
		{op: api.OpPark, x: 4, arg: 9, next: 8, now: 4, logArg: 9},
	} {
		var x atomic.Int64
		x.Store(row.x)
		r := gate.Run(nil, 9, func(th *gate.Thread) {
			was, now, ok := th.Step(&x, row.op, row.arg, row.next)
			if was != row.x || now != row.now || ok != row.ok {
				t.Errorf("P1.4: %+v answers %d, %d, %v", row, was, now, ok)
			}
		})
		want := api.Access{Op: row.op, Arg: row.logArg, New: row.logNext, Was: row.x, Now: row.now, Ok: row.ok}
		if len(r.Log) != 1 || r.Log[0] != want || x.Load() != row.now || r.End != api.Over {
			t.Errorf("P1.1: %+v: %s, the cell holds %d", row, told(r), x.Load())
		}
	}
}

func TestMostIsBroughtIntoItsBounds(t *testing.T) {
	for _, row := range []struct{ most, turns int }{
		{math.MinInt, 0}, {-1, 0}, {0, 0}, {1, 1}, {api.MaxTurns - 1, api.MaxTurns - 1},
		{api.MaxTurns, api.MaxTurns}, {api.MaxTurns + 1, api.MaxTurns}, {math.MaxInt, api.MaxTurns},
	} {
		var x atomic.Int64
		r := gate.Run(nil, row.most, func(t *gate.Thread) {
			for {
				t.Step(&x, api.OpAdd, 1, 0)
			}
		})
		if r.End != api.Cut || r.Turns != row.turns || x.Load() != int64(row.turns) || len(r.Log) != row.turns {
			t.Errorf("P1.1: most %d: end %d, %d turns, the cell holds %d", row.most, r.End, r.Turns, x.Load())
		}
	}
}

// TestEnds: in which order it is asked how a run ends.
func TestEnds(t *testing.T) {
	var x atomic.Int64
	for _, row := range []struct {
		what   string
		most   int
		bodies []body
		told   string
	}{
		{"over ahead of cut", 0, []body{nil, func(t *gate.Thread) {}}, "end 1 0 | log  | went | ready | left  | fell "},
		{"over at the last turn", 1, []body{load(&x)}, "end 1 1 | log 0 L 0 0 0: 0 0 | went 0 | ready 1 | left  | fell "},
		{"dead ahead of cut", 0, []body{park(&x, 0)}, "end 3 0 | log  | went | ready | left 0 P -1 0 0: 0 0 | fell "},
		{"dead at the last turn", 1, []body{park(&x, 0), load(&x)}, "end 3 1 | log 1 L 0 0 0: 0 0 | went 1 | ready 1 | left 0 P 0 0 0: 0 0 | fell "},
		{"cut", 0, []body{park(&x, 0), load(&x)}, "end 2 0 | log  | went | ready | left 0 P -1 0 0: 0 0; 1 L -1 0 0: 0 0 | fell "},
		{"a thread falls without an access", 0, []body{nil, falls(3), nil, falls("x")}, "end 1 0 | log  | went | ready | left  | fell 1 3 "},
	} {
		if got := told(gate.Run(nil, row.most, row.bodies...)); got != row.told {
			t.Errorf("P1.1: %s:\n got %s\nwant %s", row.what, got, row.told)
		}
	}
}

// TestLeft: each access at which a thread may stand when the run ends.
func TestLeft(t *testing.T) {
	var x, y atomic.Int64
	y.Store(3)
	bodies := []body{
		all(store(&x, 5), step(&x, api.OpLoad, 7, 7)),
		step(&x, api.OpStore, 7, 8), step(&x, api.OpCas, 7, 8), step(&y, api.OpAdd, 7, 8),
		nil, step(&y, api.OpSwap, 7, 8), step(&x, api.OpPark, 7, 8), begins(nil), falls(1),
	}
	r := gate.Run(nil, 1, bodies...)
	want := "0 L 0 0 0: 5 5; 1 S 0 7 0: 5 5; 2 C 0 7 8: 5 5; 3 A -1 7 0: 3 3; 5 W -1 7 0: 3 3; 6 P 0 7 0: 5 5; 7 Go -1 0 0: 0 0"
	if texts(r.Left) != want || r.End != api.Cut || !slices.Equal(r.Fell, []int{8}) || !slices.Equal(r.Ready, []int{7}) {
		t.Errorf("P1.1: %s", told(r))
	}
	if x.Load() != 5 || y.Load() != 3 {
		t.Errorf("P1.1: what is left was done: %d, %d", x.Load(), y.Load())
	}
}

// TestWhoGoes: who goes at a pick, whatever int that is, and who without picks.
func TestWhoGoes(t *testing.T) {
	var x atomic.Int64
	for _, row := range []struct {
		picks []int
		went  []int
	}{
		{nil, []int{1, 2, 3, 1, 2, 3}},
		{[]int{2}, []int{3, 1, 2, 3, 1, 2}},
		{[]int{-1, -3, 3, 4}, []int{3, 1, 1, 2, 3, 2}},
		{[]int{math.MinInt, math.MaxInt, -4}, []int{2, 2, 1, 3, 1, 3}},
		{[]int{1, 1, 1, 1, 1, 1, 1, 1, 1}, []int{2, 2, 3, 3, 1, 1}},
	} {
		twice := all(load(&x), load(&x))
		r := gate.Run(row.picks, 99, park(&x, 0), twice, twice, twice)
		if !slices.Equal(r.Went, row.went) || r.End != api.Dead {
			t.Errorf("P1.1: picks %v: %s", row.picks, told(r))
		}
	}
}

// TestNobodyStarves: without picks one who stays ready goes within as many turns as there are threads.
func TestNobodyStarves(t *testing.T) {
	var x atomic.Int64
	spins := func(t *gate.Thread) {
		for {
			t.Step(&x, api.OpAdd, 1, 0)
		}
	}
	r := gate.Run(nil, 300, many(7, spins)...)
	last := make([]int, 7)
	for k, n := range r.Went {
		if k-last[n] > 7 {
			t.Fatalf("the thread %d waited from the turn %d to %d", n, last[n], k)
		}
		last[n] = k
	}
	if r.Turns != 300 {
		t.Errorf("%d turns", r.Turns)
	}
}

// TestBegun: bodies are begun in their order, each ahead of the next one; a new thread ahead of the going one's going on.
func TestBegun(t *testing.T) {
	var x atomic.Int64
	var seen []int
	says := func(n int) body { return func(t *gate.Thread) { seen = append(seen, n); t.Mark(int64(n), 0) } }
	inner := all(says(20), load(&x), says(21))
	r := gate.Run([]int{0, 0}, 99, all(says(1), begins(all(says(10), begins(inner), says(11))), says(2), says(3)), nil, says(4))
	if !slices.Equal(seen, []int{1, 4, 10, 2, 3, 20, 11, 21}) {
		t.Errorf("P1.1: %v", seen)
	}
	want := "0 mark -1 1 0: 0 0; 2 mark -1 4 0: 0 0; 0 Go -1 0 0: 0 3; 3 mark -1 10 0: 0 0; 0 mark -1 2 0: 0 0; 0 mark -1 3 0: 0 0; 3 Go -1 0 0: 0 4; 4 mark -1 20 0: 0 0; 3 mark -1 11 0: 0 0; 4 L 0 0 0: 0 0; 4 mark -1 21 0: 0 0"
	if texts(r.Log) != want || !slices.Equal(r.Went, []int{0, 3, 4}) || r.End != api.Over {
		t.Errorf("P1.1: %s", told(r))
	}
}

// TestCells: cells are known by where they lie, and numbered as their first access is done.
func TestCells(t *testing.T) {
	cells := make([]atomic.Int64, 3)
	r := gate.Run([]int{1, 0, 0}, 99, all(load(&cells[2]), load(&cells[0])), all(load(&cells[1]), load(&cells[2])))
	var l []int
	for _, a := range r.Log {
		l = append(l, a.Cell)
	}
	if !slices.Equal(l, []int{0, 1, 2, 1}) {
		t.Errorf("P1.1: cells %v: %s", l, told(r))
	}
}

// TestThreads: at the limit all is as below it; one more is refused.
func TestThreads(t *testing.T) {
	var x atomic.Int64
	if r := gate.Run(nil, 99, many(api.MaxThreads, add(&x, 1))...); r.End != api.Over || r.Turns != 64 || x.Load() != 64 {
		t.Errorf("P1.1: of 64 bodies: %d turns, %d", r.Turns, x.Load())
	}
	begun := 0
	counts := func(t *gate.Thread) { begun++ }
	if r := gate.Run(nil, 99, many(api.MaxThreads+1, counts)...); !isZero(r) || begun != 0 {
		t.Errorf("P1.1: of 65 bodies: %s, %d begun", told(r), begun)
	}
	var numbers []int
	goes := func(t *gate.Thread) { numbers = append(numbers, t.Go(counts)) }
	r := gate.Run(nil, 99, append(many(62, nil), all(goes, goes, goes, load(&x)))...)
	if !slices.Equal(numbers, []int{63, -1, -1}) || begun != 1 || r.Turns != 4 || r.End != api.Over || r.Log[1] != (api.Access{Thread: 62, Op: api.OpGo, Cell: -1, Now: -1}) {
		t.Errorf("P1.4: Go answered %v, %d begun: %s", numbers, begun, told(r))
	}
}

// TestFell: what a fallen thread deferred is done; one that recovers has not fallen.
func TestFell(t *testing.T) {
	var x atomic.Int64
	recovers := func(t *gate.Thread) {
		defer func() { _ = recover() }()
		panic(1)
	}
	deferring := func(t *gate.Thread) {
		defer add(&x, 10)(t)
		defer marks(10, 1)(t)
		defer func() { t.Go(falls(2)) }()
		panic(1)
	}
	r := gate.Run(nil, 99, recovers, deferring, falls(nil), func(t *gate.Thread) { runtime.Goexit() }, all(load(&x), falls(3)))
	if r.End != api.Over || !slices.Equal(r.Fell, []int{1, 2, 4, 5}) || x.Load() != 10 {
		t.Errorf("P1.1: %s", told(r))
	}
	if want := "1 Go -1 0 0: 0 5; 1 mark -1 10 1: 0 0; 4 L 0 0 0: 0 0; 1 A 0 10 0: 0 10"; texts(r.Log) != want {
		t.Errorf("P1.1: %s", told(r))
	}
}

// TestOwnPanicAlive: one that lives and panics with the gate's own value, which it kept, falls as any other.
func TestOwnPanicAlive(t *testing.T) {
	var x atomic.Int64
	var kept any
	gate.Run(nil, 9, func(t *gate.Thread) {
		defer func() { kept = recover() }()
		t.Step(&x, api.OpPark, 0, 0)
	})
	if r := gate.Run(nil, 9, falls(kept)); !gate.Is(kept) || !slices.Equal(r.Fell, []int{0}) || r.End != api.Over {
		t.Errorf("P1.1: %s", told(r))
	}
	if fell := gate.Free(nil, falls(kept)); !slices.Equal(fell, []int{1}) {
		t.Errorf("P1.6: %v", fell)
	}
}

// TestWithin: a run within a body is a run of its own.
func TestWithin(t *testing.T) {
	var x, y, z atomic.Int64
	var inner api.Report
	stillLives := false
	r := gate.Run(nil, 99, func(t *gate.Thread) {
		t.Step(&x, api.OpAdd, 1, 0)
		inner = gate.Run([]int{1}, 99, all(load(&z), marks(10, 1)), falls(1), park(&y, 0), begins(all(load(&y), load(&z))))
		stillLives = t.Live() && t.Number() == 0
		t.Step(&y, api.OpAdd, 2, 0)
	}, add(&x, 4))
	if want := "0 A 0 1 0: 0 1; 1 A 0 4 0: 1 5; 0 A 1 2 0: 0 2"; texts(r.Log) != want || r.End != api.Over || len(r.Fell) != 0 || !stillLives {
		t.Errorf("P1.7: %s, lives %v", told(r), stillLives)
	}
	want := "end 3 4 | log 3 Go -1 0 0: 0 4; 4 L 0 0 0: 0 0; 0 L 1 0 0: 0 0; 0 mark -1 10 1: 0 0; 4 L 1 0 0: 0 0 | went 3 4 0 4 | ready 2 2 2 1 | left 2 P 0 0 0: 0 0 | fell 1 "
	if told(inner) != want {
		t.Errorf("P1.7:\n got %s\nwant %s", told(inner), want)
	}
}

// TestListsThatAreHandedIn: what a body does to the lists that were handed in changes neither run; a run changes none of them.
func TestListsThatAreHandedIn(t *testing.T) {
	var x atomic.Int64
	spoils := func(l []int) body {
		return func(t *gate.Thread) {
			for i := range l {
				l[i] = 77
			}
			load(&x)(t)
		}
	}
	picks := []int{0, 0}
	if r := gate.Run(picks, 9, spoils(picks), load(&x)); !slices.Equal(r.Went, []int{0, 1}) {
		t.Errorf("R5: %s", told(r))
	}
	went := []int{1, 0}
	if r, e, _ := gate.Again(went, spoils(went), load(&x)); e != api.OK || !slices.Equal(r.Went, []int{1, 0}) {
		t.Errorf("R5: %d, %s", e, told(r))
	}
	bodies := []body{nil, load(&x)}
	bodies[0] = func(t *gate.Thread) { bodies[1] = nil }
	if r := gate.Run(nil, 9, bodies...); r.Turns != 1 {
		t.Errorf("R5: %s", told(r))
	}
	picks, went = append(make([]int, 0, 9), 5, -7, 2), append(make([]int, 0, 9), 1, 0)
	gate.Run(picks[:2], 9, load(&x), load(&x))
	r, _, _ := gate.Again(went, load(&x), load(&x))
	fill(r.Went)
	if !slices.Equal(picks, []int{5, -7, 2}) || !slices.Equal(went, []int{1, 0}) || went[:3][2] != 0 {
		t.Errorf("R5: the lists are %v, %v", picks, went)
	}
}

// fill lays -9 everywhere, spare room too.
func fill(l []int) {
	l = l[:cap(l)]
	for i := range l {
		l[i] = -9
	}
}

// TestAnswersAreNewMemory: no two lists of a report share memory, nor those of two reports.
func TestAnswersAreNewMemory(t *testing.T) {
	var x atomic.Int64
	bodies := []body{park(&x, 0), falls(1), load(&x)}
	first, second := gate.Run(nil, 9, bodies...), gate.Run(nil, 9, bodies...)
	kept := told(second)
	fill(first.Went)
	if first.Ready[0] != 1 || first.Fell[0] != 1 {
		t.Errorf("R5: %s", told(first))
	}
	fill(first.Ready)
	if first.Fell[0] != 1 {
		t.Errorf("R5: %s", told(first))
	}
	clear(first.Log[:cap(first.Log)])
	if first.Left[0].Op != api.OpPark || told(second) != kept {
		t.Errorf("R5: %s, %s", told(first), told(second))
	}
}

// TestAllAreJoined: no goroutine of a call runs on when it has answered.
func TestAllAreJoined(t *testing.T) {
	var x atomic.Int64
	ended, before := 0, runtime.NumGoroutine()
	sleeps := func(t *gate.Thread) {
		defer func() { ended++ }()
		t.Go(all(begins(park(&x, 0)), park(&x, 0)))
		t.Step(&x, api.OpPark, 0, 0)
	}
	for range 50 {
		gate.Run(nil, 9, many(8, sleeps)...)
		gate.Again([]int{1, 1}, many(8, sleeps)...)
		gate.Free(many(8, falls(1))...)
	}
	if ended != 800 {
		t.Errorf("%d of 800 bodies have ended", ended)
	}
	for range 10000 { // a goroutine that has been joined may still be on its way out, for long where the machine has stopped it there
		if runtime.NumGoroutine() > before {
			time.Sleep(time.Millisecond)
		}
	}
	if n := runtime.NumGoroutine(); n > before {
		t.Errorf("R6: %d goroutines run on", n-before)
	}
}
