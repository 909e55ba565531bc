package inbox_test

import (
	"time"

	"treadle/aid"
	"treadle/api"
	"treadle/gate"
	"treadle/inbox"
)

// inTime: where something goes wrong somebody might go round for ever.
func inTime() (stop func() bool) {
	return time.AfterFunc(2*time.Minute, func() { panic("R1: somebody goes on for ever") }).Stop
}

// What a call does.
const (
	put = iota
	take
	begun
)

// call: v is what a Put puts in.
type call struct {
	op int
	v  int64
}

var takes, asks = call{op: take}, call{op: begun}

func puts(v int64) call { return call{op: put, v: v} }

// answer: of a call: n of a Put or a Begun, the row of a Take.
type answer struct {
	n   int
	row string // each value with a blank behind it
	e   api.Errno
}

// full: what a Put is answered for which there is no item.
var full = answer{e: api.ErrFull}

func at(n int) answer            { return answer{n: n} }
func all(values ...int64) answer { return answer{row: aid.Line(values)} }

// newInbox: nil, where there is none of so many items.
func newInbox(most int) *inbox.Inbox[int64] {
	b, _ := inbox.New[int64](most)
	return b
}

// do makes the call, by its thread or free.
func do(b *inbox.Inbox[int64], t *gate.Thread, c call) (a answer) {
	switch c.op {
	case put:
		a.n, a.e = b.Put(t, c.v)
	case take:
		a.row = aid.Line(b.Take(t))
	case begun:
		a.n = b.Begun(t)
	}
	return a
}

// makes makes the calls, one behind the other.
func makes(b *inbox.Inbox[int64], t *gate.Thread, calls ...call) []answer {
	var got []answer
	for _, c := range calls {
		got = append(got, do(b, t, c))
	}
	return got
}

// alone: the record of calls that one thread makes.
func alone(b *inbox.Inbox[int64], calls ...call) (api.Report, []answer) {
	var got []answer
	report := gate.Run(nil, api.MaxTurns, func(t *gate.Thread) { got = makes(b, t, calls...) })
	return report, got
}

// plain: an inbox that one alone calls, by the chapter's words.
type plain struct {
	most, used int // how many items there are, and how many numbers are used up
	row        string
}

// does: what an inbox is behind a call, and what it answers.
func does(s plain, c call) (plain, answer) {
	switch c.op {
	case take:
		a := answer{row: s.row}
		s.row = ""
		return s, a
	case begun:
		return s, at(min(s.used, s.most))
	}
	s.used++
	if s.used > s.most {
		return s, full
	}
	s.row += aid.Line([]int64{c.v})
	return s, at(s.used)
}

// asPlain: whether one alone is answered so.
func asPlain(s plain, calls []call, got []answer) bool { return aid.Plainly(s, calls, got, does) }

// fills: calls that put so many values in.
func fills(n int) (l []call) {
	for i := range n {
		l = append(l, puts(int64(-1000-i)))
	}
	return l
}

// tells: calls that tell all of an inbox of so many items: how many numbers are used up, what is there, how many items are left.
func tells(most int) []call {
	l := append([]call{asks, takes, takes}, fills(most+1)...)
	return append(l, asks, takes, takes, puts(-1), asks)
}
