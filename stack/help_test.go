package stack_test

import (
	"math"
	"strconv"
	"strings"

	"treadle/aid"
	"treadle/api"
	"treadle/gate"
	"treadle/stack"
)

// What a call does.
const (
	push = iota
	pop
)

// call: v is what a push lays.
type call struct {
	op int
	v  int64
}

var pops = call{op: pop}

func pushes(v int64) call { return call{op: push, v: v} }

// answer: of a call: v is what a pop took, ok that it took something.
type answer struct {
	v  int64
	ok bool
	e  api.Errno
}

// What calls are answered: a push okay or full, a pop no or popped.
var okay, full, no = answer{}, answer{e: api.ErrFull}, answer{}

func popped(v int64) answer { return answer{v: v, ok: true} }

// size: of how many nodes a stack is, and the tag with which its lists begin: New's is 0.
type size struct {
	n   int
	tag int64
}

func (m size) stack() *stack.Stack {
	s, e := stack.New(m.n)
	if e != api.OK {
		panic("refused")
	}
	if m.tag != 0 {
		s.Turn(m.tag)
	}
	return s
}

// lastTag: behind it tags go round.
const lastTag = math.MaxInt64 >> 16

// tags: some where numbers of fewer bits end, with those below them; and where they go round.
func tags() []int64 {
	l := []int64{0, 1, 2, -1, -2, lastTag, lastTag - 1, -lastTag - 1, -lastTag}
	for _, bits := range []int{7, 8, 15, 16, 31, 32} {
		l = append(l, 1<<bits, 1<<bits-1, -1<<bits)
	}
	return l
}

// do makes the call, by its thread or free.
func do(s *stack.Stack, t *gate.Thread, c call) (a answer) {
	switch c.op {
	case push:
		a.e = s.Push(t, c.v)
	case pop:
		a.v, a.ok = s.Pop(t)
	}
	return a
}

// all makes the calls, one behind the other.
func all(s *stack.Stack, t *gate.Thread, calls ...call) []answer {
	var l []answer
	for _, c := range calls {
		l = append(l, do(s, t, c))
	}
	return l
}

// alone: the record of calls that one thread makes.
func alone(s *stack.Stack, calls ...call) (api.Report, []answer) {
	var got []answer
	report := gate.Run(nil, api.MaxTurns, func(t *gate.Thread) { got = all(s, t, calls...) })
	return report, got
}

// plain: a stack that one alone calls, by the chapter's words.
type plain struct {
	room, has int
	values    string // those that are there, the last one first, each with a blank behind it
}

// plain: of a stack of this size that these were pushed onto.
func (m size) plain(values ...int64) plain {
	s := plain{room: m.n}
	for _, v := range values {
		s, _ = does(s, pushes(v))
	}
	return s
}

// does: what a stack is behind a call, and what it answers.
func does(s plain, c call) (plain, answer) {
	switch {
	case c.op == push && s.has == s.room:
		return s, full
	case c.op == push:
		s.has++
		s.values = strconv.FormatInt(c.v, 10) + " " + s.values
		return s, okay
	case s.has == 0:
		return s, no
	}
	s.has--
	last, rest, _ := strings.Cut(s.values, " ")
	v, _ := strconv.ParseInt(last, 10, 64)
	s.values = rest
	return s, popped(v)
}

// asPlain: whether one alone is answered so.
func asPlain(s plain, calls []call, got []answer) bool { return aid.Plainly(s, calls, got, does) }

// fills and empties: calls by which a stack of n nodes is filled, or emptied, whatever is there; the last one is refused.
func fills(n int) (l []call) {
	for i := range n + 1 {
		l = append(l, pushes(int64(-1000-i)))
	}
	return l
}

func empties(n int) (l []call) {
	for range n + 1 {
		l = append(l, pops)
	}
	return l
}

// goesAround: calls by which a stack is emptied, filled, and emptied again.
func goesAround(n int) []call { return append(append(empties(n), fills(n)...), empties(n)...) }
