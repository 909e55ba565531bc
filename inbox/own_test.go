package inbox_test

import (
	"errors"
	"math"
	"runtime"
	"slices"
	"testing"
	"unsafe"
	"weak"

	"treadle/aid"
	"treadle/api"
	"treadle/gate"
	"treadle/inbox"
)

// What is whose: a value's, an answer's, an inbox's.

// handsOn: what is found as these values go through an inbox of their type, so many at a time. same: whether two values are.
func handsOn[T any](t *testing.T, what string, same func(a, b T) bool, values ...T) {
	t.Helper()
	was := slices.Clone(values)
	for step := 1; step <= len(was); step++ {
		try := func(th *gate.Thread) {
			b, e := inbox.New[T](len(was))
			if e != api.OK || len(b.Take(th)) != 0 {
				t.Errorf("P22.1, P22.3: %s: %d", what, e)
			}
			next := 0
			for some := range slices.Chunk(values, step) {
				for _, v := range some {
					next++
					if n, e := b.Put(th, v); n != next || e != api.OK || b.Begun(th) != n {
						t.Errorf("P22.2, P22.4: %s: the Put number %d: %d, %d", what, next, n, e)
					}
				}
				if row := b.Take(th); !slices.EqualFunc(row, was[next-len(some):next], same) {
					t.Errorf("P22.3: %s: %v", what, row)
				}
			}
			if n, e := b.Put(th, was[0]); n != 0 || e != api.ErrFull || len(b.Take(th)) != 0 {
				t.Errorf("P22.2: %s: a Put too many: %d, %d", what, n, e)
			}
			var null *inbox.Inbox[T]
			if n, e := null.Put(th, was[0]); n != 0 || e != api.ErrNil || len(null.Take(th)) != 0 || null.Begun(th) != 0 {
				t.Errorf("R3: %s: %d, %d", what, n, e)
			}
		}
		try(nil)
		if r := gate.Run(nil, api.MaxTurns, try); len(r.Fell) != 0 || r.End != api.Over {
			t.Errorf("P22.2 to P22.4: %s: it falls", what)
		}
	}
}

func equal[T comparable](a, b T) bool { return a == b }

// sameSlice: whether two slices are of the same memory, room, and length.
func sameSlice[E any](a, b []E) bool {
	return unsafe.SliceData(a) == unsafe.SliceData(b) && len(a) == len(b) && cap(a) == cap(b)
}

// TestTypes: values of whatever type are handed on as they are.
func TestTypes(t *testing.T) {
	handsOn(t, "numbers", equal, aid.Values()...)
	handsOn(t, "nothing", equal, struct{}{}, struct{}{}, struct{}{})
	handsOn(t, "great arrays", equal, [5000]int{}, [5000]int{4999: 1}, [5000]int{0: 1})
	handsOn(t, "texts", equal, "", "x", "\x00\xff", "käse", "")
	handsOn(t, "bytes", equal, byte(0), 255, 7)
	box := newInbox(1)
	handsOn(t, "inboxes", equal, box, nil, newInbox(1), box)
	held := make([]int, 5, 9)
	handsOn(t, "slices", sameSlice, held, nil, []int{}, held[:0], held[2:3], held[:5:5], make([]int, 0, 4))
	bits := func(a, b float64) bool { return math.Float64bits(a) == math.Float64bits(b) }
	handsOn(t, "floats", bits, 0, math.Copysign(0, -1), math.NaN(), math.Inf(1), 0.1)
	x := 1
	some := []any{nil, 1, "1", x, &x, (*int)(nil), error(nil), api.ErrFull, errors.New("x"), [2]string{"x", "y"}, 1.5, 3 + 4i, make(chan int), box, struct{ a, b any }{1, &x}}
	handsOn(t, "interfaces", equal, some...)
	handsOn(t, "interfaces that cannot be held against one another", func(a, b any) bool { return sameSlice(a.([]int), b.([]int)) }, any(held), any(held[1:]))
	handsOn(t, "maps", func(a, b map[string]int) bool {
		a["seen"]++ // b is the same one, if it has that, too
		defer delete(a, "seen")
		return len(a) == len(b) && b["seen"] == 1
	}, map[string]int{}, map[string]int{"x": 9})
	tells := func(n int) func() int { return func() int { return n } }
	handsOn(t, "functions", func(a, b func() int) bool { return a() == b() }, tells(1), tells(2), tells(1))
	handsOn(t, "functions that nobody calls", func(a, b func()) bool { return a != nil && b != nil }, func() { t.Error("P22.2: it is called") }, func() { panic("called") })
}

// TestItself: an inbox may be put into itself.
func TestItself(t *testing.T) {
	b, _ := inbox.New[any](1)
	b.Put(nil, b)
	if l := b.Take(nil); len(l) != 1 || l[0] != any(b) {
		t.Errorf("P22.2, P22.3: %v", l)
	}
}

// TestAnswersAreTheirOwn: what is done with an answer, its spare room too, is not seen in the inbox, nor in other answers; nor is seen in an answer what is done behind it.
func TestAnswersAreTheirOwn(t *testing.T) {
	for n := 1; n <= 40; n++ {
		for more := range 5 {
			b := newInbox(2*n + more)
			some := func(n, from int) (want []int64) {
				for i := range n {
					want = append(want, int64(from+i))
					b.Put(nil, int64(from+i))
				}
				return want
			}
			scribbles := func(row []int64) {
				row = row[:cap(row)]
				for i := range row {
					row[i] = 1 << 40
				}
			}
			wants := [][]int64{some(n, 5)}
			first := b.Take(nil)
			wants = append(wants, some(n, 500))
			if scribbles(first[len(first):]); !slices.Equal(first, wants[0]) {
				t.Fatalf("R5: of %d values: what is put behind a Take: %v", n, first)
			}
			scribbles(first)
			second := b.Take(nil)
			if scribbles(first); !slices.Equal(second, wants[1]) {
				t.Fatalf("R5: of %d values: an answer is the inbox's, or two share memory: %v", n, second)
			}
			scribbles(second)
			wants = append(wants, some(more, 9000))
			if third := b.Take(nil); !slices.Equal(third, wants[2]) || slices.ContainsFunc(first, func(v int64) bool { return v != 1<<40 }) {
				t.Fatalf("R5: of %d values: %v, and the first answer is %v", n, third, first)
			}
		}
	}
}

// TestManyAnswers: answers that are kept while many values come and go: each tells what it told.
func TestManyAnswers(t *testing.T) {
	b := newInbox(api.MaxTasks)
	var rows [][]int64
	for i := range 90 {
		for k := range i {
			b.Put(nil, int64(1000*i+k))
		}
		rows = append(rows, b.Take(nil))
	}
	for i, row := range rows {
		if len(row) != i || !slices.IsSorted(row) || i > 0 && (row[0] != int64(1000*i) || row[i-1] != int64(1000*i+i-1)) {
			t.Fatalf("R5: behind %d Takes: %v", i, row)
		}
	}
}

// value: one that holds memory.
type value [100]int

// isKept: whether it is.
func isKept[T any](p weak.Pointer[T]) bool {
	for range 9 {
		runtime.GC()
	}
	return p.Value() != nil
}

// TestWhatIsKept: a value from its Put to its Take; not one of a Put that was refused, or stopped; nor a thread.
func TestWhatIsKept(t *testing.T) {
	nothing := func(*inbox.Inbox[*value], *gate.Thread) {}
	puts := func(b *inbox.Inbox[*value], t *gate.Thread) { b.Put(t, new(value)) }
	takes := func(b *inbox.Inbox[*value], t *gate.Thread) { b.Take(t) }
	for what, row := range map[string]struct {
		first int                                          // so many are put ahead of it
		other func(b *inbox.Inbox[*value], t *gate.Thread) // what another thread does
		picks []int
		turns int
		kept  bool
	}{
		"put":                                {0, nothing, nil, 99, true},
		"put, and others, too":               {4, puts, nil, 99, true},
		"put, and others were taken":         {4, takes, []int{1}, 99, true},
		"put, and others are behind it":      {0, puts, []int{0, 0, 0}, 99, true},
		"full":                               {9, nothing, nil, 99, false},
		"taken":                              {0, takes, []int{0, 0, 0}, 99, false},
		"taken among others":                 {8, takes, []int{0, 0, 0}, 99, false},
		"stopped ahead of its number":        {0, nothing, nil, 0, false},
		"stopped with a number":              {0, nothing, nil, 1, false},
		"stopped when it has looked":         {0, nothing, nil, 2, false},
		"stopped when it is forestalled":     {0, puts, []int{0, 0, 1, 1, 1, 0}, 6, false},
		"stopped when it has looked anew":    {0, puts, []int{0, 0, 1, 1, 1, 0, 0}, 7, false},
		"put, though another one is stopped": {0, puts, []int{1, 1, 0, 0, 0}, 5, true},
	} {
		b, _ := inbox.New[*value](9)
		for range row.first {
			b.Put(nil, new(value))
		}
		v, threads := handedIn(b, row.other, row.picks, row.turns)
		if kept, by := isKept(v), slices.ContainsFunc(threads, isKept[gate.Thread]); kept != row.kept || by {
			t.Errorf("R5: %s: the value is kept: %v; a thread: %v", what, kept, by)
		}
		if b.Take(nil); isKept(v) {
			t.Errorf("R5: %s: it is kept behind a Take", what)
		}
		runtime.KeepAlive(b)
	}
}

// handedIn: what a thread puts in, beside another one, and both threads; nobody else keeps them.
func handedIn(b *inbox.Inbox[*value], other func(b *inbox.Inbox[*value], t *gate.Thread), picks []int, turns int) (weak.Pointer[value], []weak.Pointer[gate.Thread]) {
	v, threads := new(value), make([]weak.Pointer[gate.Thread], 2)
	kept := weak.Make(v)
	gate.Run(picks, turns, func(t *gate.Thread) {
		threads[0] = weak.Make(t)
		b.Put(t, v)
		b.Begun(t)
	}, func(t *gate.Thread) {
		threads[1] = weak.Make(t)
		other(b, t)
	})
	return kept, threads
}

// TestAnswersAreKeptByTheirOwners: an answer has its values, though the inbox lets go of them.
func TestAnswersAreKeptByTheirOwners(t *testing.T) {
	b, _ := inbox.New[*value](9)
	var kept []weak.Pointer[value]
	for i := range 9 {
		v := &value{i}
		kept = append(kept, weak.Make(v))
		b.Put(nil, v)
	}
	row := b.Take(nil)
	for i, p := range kept {
		if !isKept(p) || p.Value() != row[i] || row[i][0] != i {
			t.Errorf("P22.3: the value number %d", i)
		}
	}
	runtime.KeepAlive(row)
	row = nil
	if slices.ContainsFunc(kept, isKept[value]) {
		t.Error("R5: the inbox keeps what was taken")
	}
	runtime.KeepAlive(b)
}
