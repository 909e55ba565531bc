package steal_test

import (
	"slices"
	"strconv"

	"treadle/aid"
	"treadle/api"
	"treadle/deque"
	"treadle/gate"
	"treadle/steal"
)

// What stands in the place of a deque, or of how many places it has.
const (
	null   = -1
	unmade = -2 // New did not make it
)

// What a call does.
const (
	one   = iota // of steal
	some         // is a Some
	push         // of a deque
	pop          // is a Pop
	theft        // is a Steal
)

// call: of steal: of the deques with these numbers, as the worker me, at most so many values; or of the deque of that number.
type call struct {
	op       int
	l        []int
	me, most int
	of       int
	v        int64 // what is pushed
}

func ones(me int, l ...int) call        { return call{op: one, me: me, l: l} }
func somes(most, me int, l ...int) call { return call{op: some, most: most, me: me, l: l} }
func pushes(of int, v int64) call       { return call{op: push, of: of, v: v} }
func pops(of int) call                  { return call{op: pop, of: of} }
func steals(of int) call                { return call{op: theft, of: of} }
func (c call) isOfSteal() bool          { return c.op == one || c.op == some }

// answer: of a call: what was got, each value with a blank behind it; by which place of a list; that a One or a Pop is told to have got something; how a Steal ended; why a Push is refused.
type answer struct {
	row  string
	from int
	ok   bool
	how  int8
	e    api.Errno
}

// What calls are answered: a One got or nothing, a Some all or nothing, a Push okay or full, a Pop no or popped, a Steal no, lost or stolen.
var nothing, okay, full, no, lost = answer{from: -1}, answer{}, answer{e: api.ErrFull}, answer{}, answer{how: deque.Lost}

func got(from int, v int64) answer         { return answer{row: aid.Line([]int64{v}), from: from, ok: true} }
func all(from int, values ...int64) answer { return answer{row: aid.Line(values), from: from} }
func popped(v int64) answer                { return answer{row: aid.Line([]int64{v}), ok: true} }
func stolen(v int64) answer                { return answer{row: aid.Line([]int64{v}), how: deque.Got} }

// spot: of a deque: how many places it has, where its positions begin, and what was pushed.
type spot struct {
	n    int
	from int64
	has  []int64
}

func (x spot) deque() *deque.Deque {
	switch x.n {
	case null:
		return nil
	case unmade:
		return new(deque.Deque)
	}
	d, e := deque.New(x.n, x.from)
	if e != api.OK {
		panic("refused")
	}
	for _, v := range x.has {
		if d.Push(nil, v) != api.OK {
			panic("refused")
		}
	}
	return d
}

// holds: a deque that has these values.
func holds(values ...int64) spot { return spot{n: 16, has: values} }

// deques: those of some workers.
type deques []*deque.Deque

func newDeques(of ...spot) (l deques) {
	for _, x := range of {
		l = append(l, x.deque())
	}
	return l
}

// with: the list of those with these numbers; it has spare room, in which others stand.
func (l deques) with(numbers []int) []*deque.Deque {
	room := make([]*deque.Deque, 0, len(numbers)+3)
	for _, i := range numbers {
		var d *deque.Deque
		switch i {
		case null:
		case unmade:
			d = new(deque.Deque)
		default:
			d = l[i]
		}
		room = append(room, d)
	}
	copy(room[len(room):cap(room)], l)
	return room
}

// do makes the call, by its thread or free.
func (l deques) do(t *gate.Thread, c call) (a answer) {
	switch c.op {
	case push:
		a.e = l[c.of].Push(t, c.v)
	case pop:
		v, ok := l[c.of].Pop(t)
		a.row, a.ok = told(v, ok), ok
	case theft:
		v, how := l[c.of].Steal(t)
		a.row, a.how = told(v, how == deque.Got), how
	default:
		a = l.asked(t, c)
	}
	return a
}

// asked makes a call of steal: what it answers. The list that it is handed is to be as it was, the spare room too.
func (l deques) asked(t *gate.Thread, c call) (a answer) {
	list := l.with(c.l)
	was := slices.Clone(list[:cap(list)])
	if c.op == one {
		var v int64
		v, a.from, a.ok = steal.One(t, list, c.me)
		a.row = told(v, a.ok)
	} else {
		var row []int64
		row, a.from = steal.Some(t, list, c.me, c.most)
		a.row = aid.Line(row)
	}
	if !slices.Equal(list[:cap(list)], was) {
		a.row += "and the list is changed"
	}
	return a
}

// told: a value that was got; what is told beside nothing, if that is not 0.
func told(v int64, is bool) string {
	if !is && v == 0 {
		return ""
	}
	return aid.Line([]int64{v})
}

// makes makes the calls, one behind the other.
func (l deques) makes(t *gate.Thread, calls ...call) (answers []answer) {
	for _, c := range calls {
		answers = append(answers, l.do(t, c))
	}
	return answers
}

// alone: the record of calls that one thread makes.
func (l deques) alone(calls ...call) (r api.Report, answers []answer) {
	r = gate.Run(nil, api.MaxTurns, func(t *gate.Thread) { answers = l.makes(t, calls...) })
	return r, answers
}

// emptied: what is in a deque, first that which was pushed first: all of it is got.
func emptied(d *deque.Deque) (l []int64) {
	for {
		v, how := d.Steal(nil)
		if how != deque.Got {
			return l
		}
		l = append(l, v)
	}
}

// others: the ring, by the chapter's words: those behind me, and then those ahead of me.
func others(workers, me int) (l []int) {
	if workers < 1 || workers > 64 || me < 0 || me > workers-1 {
		return nil
	}
	for w := me + 1; w < workers; w++ {
		l = append(l, w)
	}
	for w := range me {
		l = append(l, w)
	}
	return l
}

// upTo: the numbers from 0 on, so many.
func upTo(n int) (l []int) {
	for i := range n {
		l = append(l, i)
	}
	return l
}

// plain: deques that one alone calls: of each how many places it has, and what is in it, each value with a blank behind it.
type plain struct {
	room [6]int
	rows [6]string
}

func newPlain(of ...spot) (s plain) {
	for i, x := range of {
		s.room[i], s.rows[i] = x.n, aid.Line(x.has)
	}
	return s
}

// first: the first value of a deque, and what is left.
func (s plain) first(of int) (v int64, next plain, is bool) {
	if of < 0 || s.rows[of] == "" {
		return 0, s, false
	}
	row := aid.OfLine(s.rows[of])
	s.rows[of] = aid.Line(row[1:])
	return row[0], s, true
}

// does: what the deques are behind a call, and what it answers.
func does(s plain, c call) (plain, answer) {
	switch c.op {
	case push:
		if row := aid.OfLine(s.rows[c.of]); len(row) == s.room[c.of] {
			return s, full
		}
		s.rows[c.of] += strconv.FormatInt(c.v, 10) + " "
		return s, okay
	case pop:
		row := aid.OfLine(s.rows[c.of])
		if len(row) == 0 {
			return s, no
		}
		s.rows[c.of] = aid.Line(row[:len(row)-1])
		return s, popped(row[len(row)-1])
	case theft:
		v, next, is := s.first(c.of)
		if !is {
			return s, no
		}
		return next, stolen(v)
	}
	return s.steals(c)
}

// steals: a call of steal.
func (s plain) steals(c call) (plain, answer) {
	most := c.most
	if c.op == one {
		most = 1
	}
	for _, i := range others(len(c.l), c.me) {
		var row []int64
		for len(row) < most {
			v, next, is := s.first(c.l[i])
			if !is {
				break
			}
			s, row = next, append(row, v)
		}
		if len(row) > 0 {
			return s, answer{row: aid.Line(row), from: i, ok: c.op == one}
		}
	}
	return s, nothing
}
