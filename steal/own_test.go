package steal_test

import (
	"math"
	"runtime"
	"slices"
	"testing"
	"weak"

	"treadle/deque"
	"treadle/gate"
	"treadle/steal"
)

// What is whose: an answer's, a caller's; and nothing is steal's.

// TestAnswersAreTheirOwn: what is done with an answer, its spare room too, is not seen in others, nor in the deques; nor is seen in an answer what is done behind it.
func TestAnswersAreTheirOwn(t *testing.T) {
	for n := 1; n <= 70; n++ {
		d, _ := deque.New(256, 0)
		l := []*deque.Deque{nil, d}
		var wants [3][]int64
		for i := range int64(3 * n) {
			d.Push(nil, i-4)
			wants[i/int64(n)] = append(wants[i/int64(n)], i-4)
		}
		scribbles := func(row []int64) {
			row = row[:cap(row)]
			for i := range row {
				row[i] = 1 << 40
			}
		}
		first, _ := steal.Some(nil, l, 0, n)
		second, _ := steal.Some(nil, l, 0, n)
		if scribbles(first[len(first):]); !slices.Equal(first, wants[0]) || !slices.Equal(second, wants[1]) {
			t.Fatalf("R5: of %d: %v and %v", n, first, second)
		}
		if scribbles(first); !slices.Equal(second, wants[1]) {
			t.Fatalf("R5: of %d: two share memory: %v", n, second)
		}
		scribbles(second)
		if third, _ := steal.Some(nil, l, 0, math.MaxInt); !slices.Equal(third, wants[2]) || slices.ContainsFunc(first, func(v int64) bool { return v != 1<<40 }) {
			t.Fatalf("R5: of %d: %v, and the first answer is %v", n, third, first)
		}
	}
}

// TestTheListIsTheCallers: it may be changed between calls, and is not by them, with its spare room.
func TestTheListIsTheCallers(t *testing.T) {
	a, b, c := holds(1, 2, 3, 4).deque(), holds(5, 6).deque(), holds(7).deque()
	room := []*deque.Deque{a, b, c, nil, {}, a}
	was := slices.Clone(room)
	for n := range len(room) + 1 {
		for me := -1; me <= n; me++ {
			steal.One(nil, room[:n], me)
			steal.Some(nil, room[:n], me, n)
			if !slices.Equal(room, was) {
				t.Fatalf("R5: of %d, for %d: it is changed", n, me)
			}
		}
	}
	for i := range int64(9) {
		list := []*deque.Deque{nil, holds(i).deque(), nil}
		if x, from, ok := steal.One(nil, list, 0); x != i || from != 1 || !ok {
			t.Errorf("P23.2: %d, %d, %v", x, from, ok)
		}
		clear(list)
		if _, from, ok := steal.One(nil, list, 0); from != -1 || ok {
			t.Errorf("R5: it is kept: %d, %v", from, ok)
		}
	}
}

// isKept: whether it is.
func isKept[T any](p weak.Pointer[T]) bool {
	for range 9 {
		runtime.GC()
	}
	return p.Value() != nil
}

// TestNothingIsKept: neither a thread, nor a deque, nor a list.
func TestNothingIsKept(t *testing.T) {
	var thread weak.Pointer[gate.Thread]
	var other weak.Pointer[deque.Deque]
	var list weak.Pointer[[3]*deque.Deque]
	gate.Run(nil, 99, func(t *gate.Thread) {
		l := &[3]*deque.Deque{nil, holds(1, 2, 3, 4).deque(), holds(5).deque()}
		thread, other, list = weak.Make(t), weak.Make(l[1]), weak.Make(l)
		steal.One(t, l[:], 0)
		steal.Some(t, l[:], 0, 2)
		steal.One(t, l[:2], 1)
		steal.Some(t, l[:], 7, 2)
	})
	if isKept(thread) || isKept(other) || isKept(list) {
		t.Errorf("R5: what is kept: a thread %v, a deque %v, a list %v", isKept(thread), isKept(other), isKept(list))
	}
}
