package deque_test

import (
	"strconv"
	"strings"

	"treadle/aid"
	"treadle/api"
	"treadle/deque"
	"treadle/gate"
)

// What a call does.
const (
	push = iota
	pop
	steal
	length
)

// call: v is what a push lays.
type call struct {
	op int
	v  int64
}

var pops, steals, lengths = call{op: pop}, call{op: steal}, call{op: length}

func pushes(v int64) call { return call{op: push, v: v} }

// answer: of a call: v is what was got, or the length; ok that a pop got it; how a steal ended.
type answer struct {
	v   int64
	ok  bool
	how int8
	e   api.Errno
}

// What calls are answered: a push okay or full, a pop no or popped, a steal none, lost or stolen.
var okay, full, no, none, lost = answer{}, answer{e: api.ErrFull}, answer{}, answer{how: deque.None}, answer{how: deque.Lost}

func popped(v int64) answer { return answer{v: v, ok: true} }
func stolen(v int64) answer { return answer{v: v, how: deque.Got} }
func long(n int64) answer   { return answer{v: n} }

// got: whether a value was.
func (a answer) got() bool { return a.ok || a.how == deque.Got }

// size: of how many places a deque is, and where its positions begin.
type size struct {
	n    int
	from int64
}

func (m size) deque() *deque.Deque {
	d, e := deque.New(m.n, m.from)
	if e != api.OK {
		panic("refused")
	}
	return d
}

// do makes the call, by its thread or free.
func do(d *deque.Deque, t *gate.Thread, c call) (a answer) {
	switch c.op {
	case push:
		a.e = d.Push(t, c.v)
	case pop:
		a.v, a.ok = d.Pop(t)
	case steal:
		a.v, a.how = d.Steal(t)
	case length:
		a.v = d.Len(t)
	}
	return a
}

// all makes the calls, one behind the other.
func all(d *deque.Deque, t *gate.Thread, calls ...call) []answer {
	var l []answer
	for _, c := range calls {
		l = append(l, do(d, t, c))
	}
	return l
}

// alone: the record of calls that one thread makes.
func alone(d *deque.Deque, calls ...call) (api.Report, []answer) {
	var got []answer
	report := gate.Run(nil, api.MaxTurns, func(t *gate.Thread) { got = all(d, t, calls...) })
	return report, got
}

// plain: a deque that one alone calls, by the chapter's words.
type plain struct {
	room, has int
	values    string // those that are there, in the order in which they were pushed, each with a blank behind it
}

func (m size) plain(values ...int64) plain {
	s := plain{room: m.n}
	for _, v := range values {
		s, _ = does(s, pushes(v))
	}
	return s
}

// does: what a deque is behind a call, and what it answers.
func does(s plain, c call) (plain, answer) {
	switch {
	case c.op == push && s.has == s.room:
		return s, full
	case c.op == push:
		s.has++
		s.values += strconv.FormatInt(c.v, 10) + " "
		return s, okay
	case c.op == length:
		return s, long(int64(s.has))
	case s.has == 0:
		return s, answer{}
	}
	s.has--
	at, end := 0, strings.IndexByte(s.values, ' ')
	if c.op == pop {
		end = len(s.values) - 1
		at = strings.LastIndexByte(s.values[:end], ' ') + 1
	}
	v, _ := strconv.ParseInt(s.values[at:end], 10, 64)
	s.values = s.values[:at] + s.values[end+1:]
	if c.op == pop {
		return s, popped(v)
	}
	return s, stolen(v)
}

// asPlain: whether one alone is answered so.
func asPlain(s plain, calls []call, got []answer) bool { return aid.Plainly(s, calls, got, does) }

// empties: calls by which all is got, at both ends by turns, and both are refused; and a length ahead of it and behind it.
func empties(n int) []call {
	l := []call{lengths}
	for i := range n + 2 {
		l = append(l, []call{steals, pops}[i%2])
	}
	return append(l, lengths)
}

// goesAround: calls by which a deque is emptied, filled, and emptied again; each is refused once at least.
func goesAround(n int) []call {
	l := empties(n)
	for i := range n + 1 {
		l = append(l, pushes(int64(-1000-i)))
	}
	return append(l, empties(n)...)
}
