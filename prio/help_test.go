package prio_test

import (
	"math"
	"slices"

	"treadle/api"
	"treadle/gate"
	"treadle/prio"
)

// What a call does.
const (
	put = iota
	take
)

// call: v is what a put lays, level on which.
type call struct {
	op, level int
	v         int64
}

var takes = call{op: take}

func puts(level int, v int64) call { return call{op: put, level: level, v: v} }

// answer: of a call: v is what a take took, level from which, ok that it took something.
type answer struct {
	v     int64
	level int
	ok    bool
	e     api.Errno
}

// What calls are answered.
var okay, none, full, noLevel = answer{}, answer{}, answer{e: api.ErrFull}, answer{e: api.ErrArg}

func took(level int, v int64) answer { return answer{v: v, level: level, ok: true} }

// size: of how many levels a Prio is, and of how many places each.
type size struct{ levels, room int }

func (m size) prio() *prio.Prio {
	p, e := prio.New(m.levels, m.room)
	if e != api.OK {
		panic("refused")
	}
	return p
}

// filled: of this size, in which one alone has made these calls, free.
func (m size) filled(first ...call) *prio.Prio {
	p := m.prio()
	all(p, nil, first...)
	return p
}

// do makes the call, by its thread or free.
func do(p *prio.Prio, t *gate.Thread, c call) (a answer) {
	if c.op == put {
		a.e = p.Put(t, c.level, c.v)
		return a
	}
	a.v, a.level, a.ok = p.Take(t)
	return a
}

// all makes the calls, one behind the other.
func all(p *prio.Prio, t *gate.Thread, calls ...call) []answer {
	var l []answer
	for _, c := range calls {
		l = append(l, do(p, t, c))
	}
	return l
}

// alone: the record of calls that one thread makes.
func alone(p *prio.Prio, calls ...call) (api.Report, []answer) {
	var got []answer
	report := gate.Run(nil, api.MaxTurns, func(t *gate.Thread) { got = all(p, t, calls...) })
	return report, got
}

// item: what is there on a level.
type item struct{ ticket, v int64 }

// plain: a Prio that one alone calls, by the chapter's words.
type plain struct {
	room   int
	drawn  int64    // the last ticket
	levels [][]item // what is there on each, what was put first ahead
}

func (m size) plain() *plain { return &plain{room: m.room, levels: make([][]item, m.levels)} }

// does: what a call is answered.
func (s *plain) does(c call) answer {
	if c.op == take {
		return s.takes()
	}
	switch {
	case c.level < 0 || c.level >= len(s.levels):
		return noLevel
	case len(s.levels[c.level]) == s.room:
		return full
	}
	s.drawn++
	s.levels[c.level] = append(s.levels[c.level], item{s.drawn, c.v})
	return okay
}

// takes: of what stands first on each level what is worth most; of several what has the least ticket.
func (s *plain) takes() answer {
	best, most, least := -1, int64(math.MinInt64), int64(0)
	for n, l := range s.levels {
		if len(l) == 0 {
			continue
		}
		ticket := l[0].ticket
		worth := 64*int64(n) - ticket
		if worth > most || worth == most && ticket < least {
			best, most, least = n, worth, ticket
		}
	}
	if best < 0 {
		return none
	}
	first := s.levels[best][0]
	s.levels[best] = s.levels[best][1:]
	return took(best, first.v)
}

// answers: what calls are answered, one behind the other.
func (s *plain) answers(calls ...call) (l []answer) {
	for _, c := range calls {
		l = append(l, s.does(c))
	}
	return l
}

// highest: the highest level on which something is there; -1, where nothing is on any.
func (s *plain) highest() int {
	n := len(s.levels) - 1
	for n >= 0 && len(s.levels[n]) == 0 {
		n--
	}
	return n
}

// empties: calls by which all is taken, and one more.
func (m size) empties() []call { return slices.Repeat([]call{takes}, m.levels*m.room+1) }

// fills: calls by which each level is filled, and one more; the levels go by turns, if they are mixed.
func (m size) fills(mixed bool) (l []call) {
	for i := range m.levels * (m.room + 1) {
		level := i / (m.room + 1)
		if mixed {
			level = i % m.levels
		}
		l = append(l, puts(level, int64(-1000-i)))
	}
	return l
}

// goesAround: calls by which all is taken, put, and taken again; each is refused once.
func (m size) goesAround() []call { return slices.Concat(m.empties(), m.fills(true), m.empties()) }
