package list_test

import (
	"errors"
	"math"
	"runtime"
	"slices"
	"testing"
	"unsafe"
	"weak"

	"treadle/aid"
	"treadle/api"
	"treadle/gate"
	"treadle/list"
)

// handsOn: what is found as these values are added to a list of their type: by an Each behind each of them, and by a Close. is: whether two values are the same.
func handsOn[T any](t *testing.T, what string, is func(a, b T) bool, values ...T) {
	t.Helper()
	was := slices.Clone(values)
	try := func(th *gate.Thread) {
		l := list.New[T](len(values))
		for i, v := range values {
			if k, e := l.Add(th, v); k != i+1 || e != api.OK {
				t.Errorf("P9.2: %s: the Add number %d: %d, %d", what, i, k, e)
			}
			if row, closed, e := l.Each(th); !slices.EqualFunc(row, was[:i+1], is) || closed || e != api.OK {
				t.Errorf("P9.4, P9.5: %s: %v, %v, %d", what, row, closed, e)
			}
		}
		if k, e := l.Add(th, values[0]); k != 0 || e != api.ErrFull {
			t.Errorf("P9.2: %s: an Add too many: %d, %d", what, k, e)
		}
		if row, e := l.Close(th); !slices.EqualFunc(row, was, is) || e != api.OK {
			t.Errorf("P9.3, P9.5: %s: %v, %d", what, row, e)
		}
		if row, e := l.Close(th); len(row) != 0 || e != api.ErrClosed {
			t.Errorf("P9.3: %s: a second Close: %v, %d", what, row, e)
		}
		if row, closed, e := l.Each(th); len(row) != 0 || !closed || e != api.OK {
			t.Errorf("P9.4: %s: closed: %v, %v, %d", what, row, closed, e)
		}
		if k, e := l.Add(th, values[0]); k != 0 || e != api.ErrClosed {
			t.Errorf("P9.2: %s: closed: %d, %d", what, k, e)
		}
		var null *list.List[T]
		if row, e := null.Close(th); len(row) != 0 || e != api.ErrNil {
			t.Errorf("R3: %s: %v, %d", what, row, e)
		}
	}
	try(nil)
	if r := gate.Run(nil, api.MaxTurns, try); len(r.Fell) != 0 || r.End != api.Over {
		t.Errorf("P9.5: %s: it falls", what)
	}
}

func equal[T comparable](a, b T) bool { return a == b }

// sameSlice: whether two slices are of the same memory, room, and length.
func sameSlice[E any](a, b []E) bool {
	return unsafe.SliceData(a) == unsafe.SliceData(b) && len(a) == len(b) && cap(a) == cap(b)
}

// TestTypes: values of whatever type are handed on as they are.
func TestTypes(t *testing.T) {
	type pair struct {
		a string
		b [3]int
	}
	handsOn(t, "numbers", equal, aid.Values()...)
	handsOn(t, "bytes", equal, byte(0), 255, 7)
	handsOn(t, "bools", equal, false, true, false)
	handsOn(t, "texts", equal, "", "x", "\x00\xff", "käse", "")
	handsOn(t, "structs", equal, pair{}, pair{"x", [3]int{1, 2, 3}}, pair{})
	handsOn(t, "arrays", equal, [4]uint16{}, [4]uint16{1, 2, 3, 65535})
	handsOn(t, "great arrays", equal, [5000]int{}, [5000]int{4999: 1})
	handsOn(t, "nothing", equal, struct{}{}, struct{}{}, struct{}{})
	handsOn(t, "no numbers", equal, [0]int{}, [0]int{})
	handsOn(t, "floats", func(a, b float64) bool { return math.Float64bits(a) == math.Float64bits(b) }, 0, math.Copysign(0, -1), math.NaN(), math.Inf(1), 0.1)
	handsOn(t, "complex numbers", equal, 0, 1i, complex(3, -4))
	x, y := 1, 1
	handsOn(t, "pointers", equal, &x, nil, &y, &x)
	handsOn(t, "channels", equal, make(chan int), nil, make(chan int, 3))
	handsOn(t, "interfaces", equal, []any{nil, 1, "1", (*int)(nil), error(nil), pair{}, 1.5}...)
	handsOn(t, "errors", equal, []error{nil, api.ErrFull, errors.New("x"), errors.New("x")}...)
	handsOn(t, "lists", equal, newList(1), nil, newList(1))
	held := make([]int, 5, 9)
	handsOn(t, "slices", sameSlice, held, nil, []int{}, held[:0], held[2:3], held[:5:5], make([]int, 0, 4))
	handsOn(t, "maps", func(a, b map[int]int) bool {
		a[0]++ // it is the other one, too
		same := a[0] == b[0]
		a[0]--
		return same
	}, map[int]int{}, map[int]int{0: 9}, map[int]int{1: 1})
	called := 0
	handsOn(t, "functions", func(a, b func() int) bool { return (a == nil) == (b == nil) && (a == nil || a() == b()) }, func() int { return 1 }, nil, func() int { return 2 })
	handsOn(t, "functions that nobody calls", func(a, b func()) bool { return a != nil && b != nil }, func() { called++ }, func() { panic("called") })
	handsOn(t, "interfaces that cannot be held against one another", func(a, b any) bool { return sameSlice(a.([]int), b.([]int)) }, any(held), any(held[1:]))
	if called != 0 {
		t.Errorf("P9.5: a function is called")
	}
}

// TestAnswersAreTheirOwn: what is done with an answer, its spare room too, is not seen in the list, nor in other answers; nor is seen in an answer what is added behind it.
func TestAnswersAreTheirOwn(t *testing.T) {
	for n := range 40 {
		l := newList(50)
		makes(l, nil, fills(n)...)
		var want []int64
		for _, c := range fills(n) {
			want = append(want, c.v)
		}
		scribbles := func(row []int64) {
			row = row[:cap(row)]
			for i := range row {
				row[i] = 1 << 40
			}
		}
		first, _, _ := l.Each(nil)
		second, _, _ := l.Each(nil)
		if l.Add(nil, 5); !slices.Equal(first, want) || !slices.Equal(second, want) {
			t.Fatalf("R5: of %d values: an Add behind it: %v, %v", n, first, second)
		}
		if scribbles(first); !slices.Equal(second, want) {
			t.Fatalf("R5: of %d values: two answers share memory: %v", n, second)
		}
		third, _, _ := l.Each(nil)
		if scribbles(second); !slices.Equal(third, append(want, 5)) {
			t.Fatalf("R5: of %d values: an answer is the list's: %v", n, third)
		}
		last, _ := l.Close(nil)
		if scribbles(third); !slices.Equal(last, append(want, 5)) {
			t.Fatalf("R5: of %d values: an Each's answer is the list's: %v", n, last)
		}
		scribbles(last)
		makes(l, nil, adds(6), closes, looks)
		if slices.ContainsFunc(last, func(v int64) bool { return v != 1<<40 }) {
			t.Fatalf("R5: of %d values: a Close's answer is the list's: %v", n, last)
		}
	}
}

// TestManyAnswers: answers that are kept while many values are added: each tells what was there then.
func TestManyAnswers(t *testing.T) {
	l := newList(300)
	var rows [][]int64
	for i := range 300 {
		row, _, _ := l.Each(nil)
		rows = append(rows, row)
		l.Add(nil, int64(i))
	}
	for n, row := range rows {
		if len(row) != n || !slices.IsSorted(row) || n > 0 && (row[0] != 0 || row[n-1] != int64(n-1)) {
			t.Fatalf("R5: behind %d Adds: %v", n, row)
		}
	}
}

// TestNothingIsKept: a value of an Add that was refused, or that was stopped, is not kept by the list.
func TestNothingIsKept(t *testing.T) {
	nothing := func(*list.List[*value], *gate.Thread) {}
	closes := func(l *list.List[*value], t *gate.Thread) { l.Close(t) }
	adds := func(l *list.List[*value], t *gate.Thread) { l.Add(t, new(value)) }
	for what, row := range map[string]struct {
		most  int
		other func(l *list.List[*value], t *gate.Thread) // what another thread does
		picks []int
		turns int
		kept  bool
	}{
		"put on":                         {9, adds, []int{0, 0, 1, 1, 1}, 99, true},
		"full":                           {0, nothing, nil, 99, false},
		"closed":                         {9, closes, []int{1}, 99, false},
		"closed in its midst":            {9, closes, []int{0, 0, 1}, 99, false},
		"stopped with a number":          {9, nothing, nil, 2, false},
		"stopped when it is forestalled": {9, adds, []int{0, 0, 1, 1, 1, 0}, 6, false},
		"stopped behind that":            {9, adds, []int{0, 0, 1, 1, 1, 0, 0}, 7, false},
	} {
		l := list.New[*value](row.most)
		v := added(l, row.other, row.picks, row.turns)
		for range 9 {
			runtime.GC()
		}
		if kept := v.Value() != nil; kept != row.kept {
			t.Errorf("R5: %s: the value is kept: %v", what, kept)
		}
		runtime.KeepAlive(l)
	}
}

// value: one that holds memory.
type value [100]int

// added: what a thread adds, beside another one; nobody else keeps it.
func added(l *list.List[*value], other func(l *list.List[*value], t *gate.Thread), picks []int, turns int) weak.Pointer[value] {
	v := new(value)
	kept := weak.Make(v)
	gate.Run(picks, turns, func(t *gate.Thread) { l.Add(t, v) }, func(t *gate.Thread) { other(l, t) })
	return kept
}
