package gate_test

import (
	"runtime"
	"slices"
	"sync/atomic"
	"testing"

	"treadle/api"
	"treadle/gate"
)

func TestFree(t *testing.T) {
	var called, lives atomic.Int64
	calls := func(f body) body {
		return func(t *gate.Thread) {
			called.Add(1)
			if t != nil || t.Live() {
				lives.Add(1)
			}
			f(t)
		}
	}
	ends, goexits := calls(func(t *gate.Thread) {}), calls(func(t *gate.Thread) { runtime.Goexit() })
	recovers := calls(func(t *gate.Thread) {
		defer func() { _ = recover() }()
		panic(1)
	})
	for _, row := range []struct {
		what   string
		bodies []body
		fell   []int
		called int64
	}{
		{"none", nil, nil, 0},
		{"nil alone", []body{nil, nil}, nil, 0},
		{"the chapter's", []body{ends, nil, calls(falls(3))}, []int{2}, 2},
		{"several", []body{calls(falls(nil)), ends, calls(falls("x")), nil, recovers, goexits, calls(falls(stopped()))}, []int{0, 2, 6}, 6},
		{"a division by nought", []body{calls(func(t *gate.Thread) { _ = 1 / (t.Number() + 1) })}, []int{0}, 1},
		{"64", many(api.MaxThreads, calls(falls(1))), upTo(64), 64},
		{"65", many(api.MaxThreads+1, calls(falls(1))), nil, 0},
	} {
		called.Store(0)
		if fell := gate.Free(row.bodies...); !slices.Equal(fell, row.fell) || called.Load() != row.called || lives.Load() != 0 {
			t.Errorf("P1.6: %s: %v fell, %d were called, %d not with nil", row.what, fell, called.Load(), lives.Load())
		}
	}
}

func upTo(n int) []int {
	var l []int
	for i := range n {
		l = append(l, i)
	}
	return l
}

// TestFreeGoBeside: all are begun ahead of waiting for any: bodies may wait for one another.
func TestFreeGoBeside(t *testing.T) {
	meets := make([]chan int, 64)
	var bodies []body
	ended := make([]int, 64)
	for i := range meets {
		meets[i] = make(chan int)
		bodies = append(bodies, func(t *gate.Thread) {
			if i%2 == 0 {
				meets[i] <- 1 // first to the one behind it, then to the one ahead, round
				<-meets[(i+63)%64]
			} else {
				<-meets[i-1]
				meets[i] <- 1
			}
			ended[i]++
		})
	}
	gate.Free(bodies...)
	if !slices.Equal(ended, slices.Repeat([]int{1}, 64)) {
		t.Errorf("P1.6: %v", ended)
	}
}

// TestFreeList: what a body does to the list that was handed in changes nothing.
func TestFreeList(t *testing.T) {
	var called atomic.Int64
	list := make([]body, api.MaxThreads)
	for i := range list {
		list[i] = func(t *gate.Thread) {
			if called.Add(1) == 1 {
				clear(list)
			}
		}
	}
	if gate.Free(list...); called.Load() != api.MaxThreads {
		t.Errorf("R5: %d were called", called.Load())
	}
}
