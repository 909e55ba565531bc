package once_test

import (
	"runtime"
	"testing"

	"treadle/aid"
	"treadle/api"
	"treadle/cell"
	"treadle/gate"
	"treadle/once"
)

// TestStopped: a thread that is stopped at whatever access of Do: the gate's own panic comes out of it, and nothing is stored.
func TestStopped(t *testing.T) {
	recovers := func(t *gate.Thread, x *cell.Cell) { _ = aid.Caught(func() { x.Add(t, 1) }) }
	for _, row := range []struct {
		what  string
		f     func(t *gate.Thread, x *cell.Cell)
		left  []string // at which access it is stopped, when it had so many turns
		state []string // what Done finds behind that
	}{
		{"returns", func(t *gate.Thread, x *cell.Cell) { x.Add(t, 1) },
			[]string{"0 load c-1: 0", "0 cas c0 0 1: 0", "0 add c-1 1: 0", "0 store c0 2: 1"}, []string{"0", "0", "1", "1"}},
		{"panics", func(t *gate.Thread, x *cell.Cell) { panic("x") },
			[]string{"0 load c-1: 0", "0 cas c0 0 1: 0", "0 store c0 3: 1"}, []string{"0", "0", "1"}},
		{"recovers the gate's own and returns", recovers,
			[]string{"0 load c-1: 0", "0 cas c0 0 1: 0", "0 add c-1 1: 0", "0 store c0 2: 1"}, []string{"0", "0", "1", "1"}},
		{"recovers the gate's own and panics", func(t *gate.Thread, x *cell.Cell) { recovers(t, x); panic("x") },
			[]string{"0 load c-1: 0", "0 cas c0 0 1: 0", "0 add c-1 1: 0", "0 store c0 3: 1"}, []string{"0", "0", "1", "1"}},
		{"defers a panic", func(t *gate.Thread, x *cell.Cell) { defer panic("x"); x.Add(t, 1) },
			[]string{"0 load c-1: 0", "0 cas c0 0 1: 0", "0 add c-1 1: 0", "0 store c0 3: 1"}, []string{"0", "0", "1", "1"}},
		{"defers an access", func(t *gate.Thread, x *cell.Cell) { defer x.Load(t); panic("x") },
			[]string{"0 load c-1: 0", "0 cas c0 0 1: 0", "0 load c-1: 0", "0 store c0 3: 1"}, []string{"0", "0", "1", "1"}},
		{"exits", func(t *gate.Thread, x *cell.Cell) { runtime.Goexit() },
			[]string{"0 load c-1: 0", "0 cas c0 0 1: 0", "0 store c0 3: 1"}, []string{"0", "0", "1"}},
	} {
		for turns, left := range row.left {
			o, x := once.New(), cell.New(0)
			var out any
			r := gate.Run(nil, turns, func(t *gate.Thread) {
				defer func() { out = recover() }()
				o.Do(t, func(t *gate.Thread) { row.f(t, x) })
			})
			exits := row.what == "exits" && turns == 2
			if r.End != api.Cut || len(r.Left) != 1 || aid.Text(r.Left[0])[:len(left)] != left || !gate.Is(out) && !exits {
				t.Errorf("P3.1: %s, %d turns: out comes %v: %+v", row.what, turns, out, r)
			}
			if state := stateOf(o); state != row.state[turns] {
				t.Errorf("P3.1: %s, %d turns: the state is %s", row.what, turns, state)
			}
		}
	}
}

// stateOf: what Done loads.
func stateOf(o *once.Once) string {
	r := gate.Run(nil, 9, func(t *gate.Thread) { o.Done(t) })
	return aid.Text(r.Log[0])[len("0 load c0: "):]
}

// TestGatesOwn: the gate's own panic goes on, and nothing is stored, whoever f has it from.
func TestGatesOwn(t *testing.T) {
	_, own := aid.Stopped()
	o := once.New()
	if x := aid.Caught(func() { o.Do(nil, falls(own)) }); !gate.Is(x) || stateOf(o) != "1" {
		t.Errorf("P3.1: free: %v comes out, the state is %s", x, stateOf(o))
	}
	o = once.New()
	var out any
	r := gate.Run(nil, 9, func(t *gate.Thread) { out = aid.Caught(func() { o.Do(t, falls(own)) }) })
	if !gate.Is(out) || stateOf(o) != "1" || aid.Texts(r.Log) != "0 load c0: 0; 0 cas c0 0 1: 0 ok" {
		t.Errorf("P3.1: kept from another run: %v comes out, the state is %s: %+v", out, stateOf(o), r)
	}
	o, x := once.New(), cell.New(0)
	gate.Run(nil, 0, func(t *gate.Thread) {
		out = aid.Caught(func() { o.Do(nil, func(*gate.Thread) { x.Load(t) }) })
	})
	if !gate.Is(out) || stateOf(o) != "1" {
		t.Errorf("P3.1: of a thread that Do was not handed: %v comes out, the state is %s", out, stateOf(o))
	}
}

// TestExits: an f that ends its goroutine has not returned, and has ended: nobody sleeps for ever.
func TestExits(t *testing.T) {
	o := once.New()
	var got answer
	r := gate.Run([]int{0, 0, 1}, 99, func(t *gate.Thread) {
		o.Do(t, func(t *gate.Thread) { runtime.Goexit() })
	}, func(t *gate.Thread) { got = do(t, o, nothing) })
	if r.End != api.Over || got != (answer{e: api.ErrFell}) || len(r.Fell) != 0 {
		t.Errorf("what follows: %v, %+v", got, r)
	}
}
