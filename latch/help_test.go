package latch_test

import (
	"math/rand"

	"treadle/api"
	"treadle/gate"
	"treadle/latch"
)

// What a call does. A visit is no call of the package: a try, and, where that is true, a left and an unlock.
const (
	down = iota
	wait
	left
	lock
	try
	unlock
	arrive
	visit
)

// call: n is what a down takes.
type call struct {
	op int
	n  int64
}

// answer: of a call: n is what is left, or the round; ok that a try was done, or that one came last.
type answer struct {
	n  int64
	ok bool
	e  api.Errno
}

// sleeps: no call answers so; it says that there is no answer yet.
var sleeps = answer{n: -1}

// things: one of each, that the calls are of.
type things struct {
	latch   *latch.Latch
	lock    *latch.Lock
	barrier *latch.Barrier
}

// size: of how many the latch and the barrier are.
type size struct{ latch, barrier int64 }

func (m size) things() things {
	l, e := latch.New(m.latch)
	b, f := latch.NewBarrier(m.barrier)
	if e != api.OK || f != api.OK {
		panic("refused")
	}
	return things{l, latch.NewLock(), b}
}

// do makes the call, by its thread or free.
func (x things) do(t *gate.Thread, c call) (a answer) {
	switch c.op {
	case down:
		a.e = x.latch.Down(t, c.n)
	case wait:
		a.e = x.latch.Wait(t)
	case left:
		a.n = x.latch.Left(t)
	case lock:
		a.e = x.lock.Lock(t)
	case try:
		a.ok = x.lock.Try(t)
	case unlock:
		a.e = x.lock.Unlock(t)
	case arrive:
		a.n, a.ok, a.e = x.barrier.Arrive(t)
	}
	return a
}

// all makes the calls, one behind the other.
func (x things) all(t *gate.Thread, calls ...call) []answer {
	var l []answer
	for _, c := range calls {
		l = append(l, x.do(t, c))
	}
	return l
}

// each call once; of things of which the latch is of 1 and the barrier of 1 none sleeps.
func each() []call {
	return []call{{op: down, n: 1}, {op: wait}, {op: left}, {op: lock}, {op: try}, {op: unlock}, {op: arrive}}
}

// alone: the record of calls that one thread makes.
func (x things) alone(calls ...call) (api.Report, []answer) {
	var got []answer
	r := gate.Run(nil, api.MaxTurns, func(t *gate.Thread) { got = x.all(t, calls...) })
	return r, got
}

// inside: what the cells hold, of the latch, the lock, the barrier: its round, its count. (It is of no use behind that.)
func (x things) inside() (held [4]int64) {
	r := gate.Run(nil, len(held), func(t *gate.Thread) { x.all(t, call{op: left}, call{op: unlock}, call{op: arrive}) })
	for i := range held {
		held[i] = r.Log[i].Was
	}
	return held
}

// state: what things are, by the chapter's words.
type state struct {
	left         int64
	taken        bool
	round, count int64
	of           int64 // so many go through the barrier together
}

// state: of things of this size that nobody has called.
func (m size) state() state { return state{left: m.latch, of: m.barrier} }

// does: the chapter's words of things that one alone calls: what they are behind a call, and what it answers.
func does(s state, c call) (state, answer) {
	switch c.op {
	case down:
		if c.n < 1 || c.n > s.left {
			return s, answer{e: api.ErrArg}
		}
		s.left -= c.n
		return s, answer{}
	case wait:
		if s.left > 0 {
			return s, sleeps
		}
		return s, answer{}
	case left:
		return s, answer{n: s.left}
	case arrive:
		s.count++
		if s.count != s.of {
			return s, sleeps
		}
		s.round, s.count = s.round+1, 0
		return s, answer{n: s.round - 1, ok: true}
	}
	return doesOfLock(s, c)
}

func doesOfLock(s state, c call) (state, answer) {
	was := s.taken
	s.taken = c.op != unlock
	switch {
	case c.op == lock && was:
		return s, sleeps
	case c.op == try:
		return s, answer{ok: !was}
	case c.op == unlock && !was:
		return s, answer{e: api.ErrState}
	}
	return s, answer{}
}

// someCall: any but a visit; its value is some of those.
func someCall(r *rand.Rand, values []int64) call {
	return call{op: r.Intn(visit), n: values[r.Intn(len(values))]}
}
