package task_test

import (
	"sync/atomic"

	"treadle/aid"
	"treadle/api"
	"treadle/fault"
	"treadle/gate"
	"treadle/token"
)

// words: a task by the chapter's words: its steps once more, on a cell of its own, by threads of which one moves at a time, or by one alone who is free.
type words struct {
	number int64
	k      *token.Token
	f      function
	state  atomic.Int64
	v      int64
	e      error
}

// worded: a task by the chapter's words.
func worded(number int64, k *token.Token, f function) kind {
	return &words{number: number, k: k, f: f}
}

// step: an access of the state: what was, and, of a Cas, whether it is done.
func (x *words) step(t *gate.Thread, op int8, arg, next int64) (int64, bool) {
	was, _, ok := aid.Step(t, &x.state, op, arg, next)
	return was, ok
}

func (x *words) Number() int64 { return x.number }

func (x *words) Run(t *gate.Thread) bool {
	if _, ok := x.step(t, api.OpCas, 0, 1); !ok {
		return false
	}
	if x.k != nil {
		if r := x.k.Reason(t); r != 0 {
			x.drops(t, r)
			return false
		}
	}
	t.Mark(x.number, 2)
	x.v, x.e = x.caught(t)
	t.Mark(x.number, 3)
	end := int64(2)
	if x.e != nil {
		end = 3
	}
	x.step(t, api.OpStore, end, 0)
	return true
}

// caught: what the function answers, or panics with.
func (x *words) caught(t *gate.Thread) (v int64, e error) {
	defer func() {
		if p := recover(); gate.Is(p) {
			panic(p)
		} else if p != nil {
			v, e = 0, &fault.Panicked{Value: p}
		}
	}()
	if v, e = x.f(t); e != nil {
		return 0, e
	}
	return v, nil
}

func (x *words) drops(t *gate.Thread, reason int64) {
	x.e = &fault.Cancelled{Reason: reason}
	t.Mark(x.number, 4)
	x.step(t, api.OpStore, 3, 0)
}

func (x *words) Cancel(t *gate.Thread, reason int64) bool {
	if reason < 1 {
		return false
	}
	if _, ok := x.step(t, api.OpCas, 0, 1); !ok {
		return false
	}
	x.drops(t, reason)
	return true
}

func (x *words) Wait(t *gate.Thread) (int64, error) {
	s, _ := x.step(t, api.OpLoad, 0, 0)
	for s < 2 {
		s, _ = x.step(t, api.OpPark, s, 0)
	}
	return x.v, x.e
}

func (x *words) State(t *gate.Thread) int {
	s, _ := x.step(t, api.OpLoad, 0, 0)
	return int(s)
}
