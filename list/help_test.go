package list_test

import (
	"treadle/aid"
	"treadle/api"
	"treadle/gate"
	"treadle/list"
)

// What a call does.
const (
	add = iota
	shut
	look
)

// call: v is what an Add adds.
type call struct {
	op int
	v  int64
}

var closes, looks = call{op: shut}, call{op: look}

func adds(v int64) call { return call{op: add, v: v} }

// answer: of a call: k of an Add, closed of an Each, and the row of a Close or an Each.
type answer struct {
	k      int
	row    string // each value with a blank behind it
	closed bool
	e      api.Errno
}

// What calls are answered: an Add at, full or gone; a Close all or gone; an Each all or ended.
var full, gone, ended = answer{e: api.ErrFull}, answer{e: api.ErrClosed}, answer{closed: true}

func at(k int) answer            { return answer{k: k} }
func all(values ...int64) answer { return answer{row: aid.Line(values)} }

func newList(most int) *list.List[int64] { return list.New[int64](most) }

// do makes the call, by its thread or free.
func do(l *list.List[int64], t *gate.Thread, c call) (a answer) {
	var row []int64
	switch c.op {
	case add:
		a.k, a.e = l.Add(t, c.v)
	case shut:
		row, a.e = l.Close(t)
	case look:
		row, a.closed, a.e = l.Each(t)
	}
	a.row = aid.Line(row)
	return a
}

// makes makes the calls, one behind the other.
func makes(l *list.List[int64], t *gate.Thread, calls ...call) []answer {
	var got []answer
	for _, c := range calls {
		got = append(got, do(l, t, c))
	}
	return got
}

// alone: the record of calls that one thread makes.
func alone(l *list.List[int64], calls ...call) (api.Report, []answer) {
	var got []answer
	report := gate.Run(nil, api.MaxTurns, func(t *gate.Thread) { got = makes(l, t, calls...) })
	return report, got
}

// plain: a list that one alone calls, by the chapter's words.
type plain struct {
	most, given int // how many places there are, and how many were given out
	closed      bool
	row         string
}

// does: what a list is behind a call, and what it answers.
func does(s plain, c call) (plain, answer) {
	switch {
	case c.op == look && s.closed:
		return s, ended
	case c.op == look:
		return s, answer{row: s.row}
	case s.closed:
		return s, gone
	case c.op == shut:
		a := answer{row: s.row}
		s.closed, s.row = true, ""
		return s, a
	}
	s.given++
	if s.given > s.most {
		return s, full
	}
	s.row += aid.Line([]int64{c.v})
	return s, at(s.given)
}

// asPlain: whether one alone is answered so.
func asPlain(s plain, calls []call, got []answer) bool { return aid.Plainly(s, calls, got, does) }

// fills: calls that add so many values.
func fills(n int) (l []call) {
	for i := range n {
		l = append(l, adds(int64(-1000-i)))
	}
	return l
}

// tells: calls that tell all of a list of so many places: what is on, whether it is closed, how many places are left. Then it is closed.
func tells(most int) []call {
	l := append([]call{looks}, fills(most+1)...)
	return append(l, looks, closes, closes, adds(-1), looks)
}
