package ring_test

import (
	"math/big"
	"strconv"
	"strings"

	"treadle/aid"
	"treadle/api"
	"treadle/gate"
	"treadle/ring"
)

// What a call does.
const (
	put = iota
	take
	length
)

// call: v is what a put lays.
type call struct {
	op int
	v  int64
}

var takes, lengths = call{op: take}, call{op: length}

func puts(v int64) call { return call{op: put, v: v} }

// answer: of a call: v is what a take took, or the length; ok that a take took something.
type answer struct {
	v  int64
	ok bool
	e  api.Errno
}

// What calls are answered.
var okay, none, full = answer{}, answer{}, answer{e: api.ErrFull}

func took(v int64) answer { return answer{v: v, ok: true} }
func long(n int64) answer { return answer{v: n} }

// size: of how many places a ring is, and where its positions begin.
type size struct {
	n    int
	from int64
}

func (m size) ring() *ring.Ring {
	r, e := ring.New(m.n, m.from)
	if e != api.OK {
		panic("refused")
	}
	return r
}

// do makes the call, by its thread or free.
func do(r *ring.Ring, t *gate.Thread, c call) (a answer) {
	switch c.op {
	case put:
		a.e = r.Put(t, c.v)
	case take:
		a.v, a.ok = r.Take(t)
	case length:
		a.v = r.Len(t)
	}
	return a
}

// all makes the calls, one behind the other.
func all(r *ring.Ring, t *gate.Thread, calls ...call) []answer {
	var l []answer
	for _, c := range calls {
		l = append(l, do(r, t, c))
	}
	return l
}

// alone: the record of calls that one thread makes.
func alone(r *ring.Ring, calls ...call) (api.Report, []answer) {
	var got []answer
	report := gate.Run(nil, api.MaxTurns, func(t *gate.Thread) { got = all(r, t, calls...) })
	return report, got
}

// placeOf: the place of a position, reckoned by numbers that have no ends.
func (m size) placeOf(p int64) int {
	return int(new(big.Int).Mod(big.NewInt(p), big.NewInt(int64(m.n))).Int64())
}

// plain: a queue that one alone calls, by the chapter's words.
type plain struct {
	room, has int
	values    string // those that are there, each with a blank behind it
}

func (m size) plain() plain { return plain{room: m.n} }

// does: what a queue is behind a call, and what it answers.
func does(s plain, c call) (plain, answer) {
	switch c.op {
	case put:
		if s.has == s.room {
			return s, full
		}
		s.has++
		s.values += strconv.FormatInt(c.v, 10) + " "
		return s, okay
	case take:
		if s.has == 0 {
			return s, none
		}
		s.has--
		first, rest, _ := strings.Cut(s.values, " ")
		v, _ := strconv.ParseInt(first, 10, 64)
		s.values = rest
		return s, took(v)
	}
	return s, long(int64(s.has))
}

// asPlain: whether one alone is answered so.
func asPlain(s plain, calls []call, got []answer) bool { return aid.Plainly(s, calls, got, does) }

// empties: calls by which all is taken, and a length at both ends.
func empties(n int) []call {
	l := []call{lengths}
	for range n + 1 {
		l = append(l, takes)
	}
	return append(l, lengths)
}

// goesAround: calls by which a ring is emptied, filled, and emptied again; each is refused once.
func goesAround(n int) []call {
	l := empties(n)
	for i := range n + 1 {
		l = append(l, puts(int64(-1000-i)))
	}
	return append(l, empties(n)...)
}
