package count_test

import (
	"math"
	"math/big"
	"math/rand"

	"treadle/aid"
	"treadle/api"
	"treadle/count"
	"treadle/gate"
)

type body = aid.Body

// What a call does.
const (
	add = iota
	sum
	raise
	top
	take
	back
	left
)

// call: n is what is added or raised, who adds it.
type call struct {
	op  int
	n   int64
	who int
}

// answer: of a call: each has one of them.
type answer struct {
	n  int64
	ok bool
	e  api.Errno
}

// things: one of each, that the calls are of.
type things struct {
	counter *count.Counter
	peak    *count.Peak
	tickets *count.Tickets
}

// size: of things: how many stripes and tickets, and the peak to begin with.
type size struct {
	stripes       int
	peak, tickets int64
}

func (m size) things() things {
	c, e := count.New(m.stripes)
	k, f := count.NewTickets(m.tickets)
	if e != api.OK || f != api.OK {
		panic("refused")
	}
	return things{c, count.NewPeak(m.peak), k}
}

// do makes the call, by its thread or free.
func (x things) do(t *gate.Thread, c call) answer {
	switch c.op {
	case add:
		return answer{e: x.counter.Add(t, c.who, c.n)}
	case sum:
		return answer{n: x.counter.Sum(t)}
	case raise:
		return answer{ok: x.peak.Raise(t, c.n)}
	case top:
		return answer{n: x.peak.Top(t)}
	case take:
		return answer{ok: x.tickets.Take(t)}
	case back:
		return answer{e: x.tickets.Back(t)}
	}
	return answer{n: x.tickets.Left(t)}
}

// all makes the calls, one behind the other.
func (x things) all(t *gate.Thread, calls ...call) []answer {
	var l []answer
	for _, c := range calls {
		l = append(l, x.do(t, c))
	}
	return l
}

// each call once.
func each() []call {
	return []call{{op: add, n: 5}, {op: sum}, {op: raise, n: 5}, {op: top}, {op: take}, {op: back}, {op: left}}
}

// alone: what the log has of calls that one thread makes.
func (x things) alone(calls ...call) (string, []answer) {
	var got []answer
	r := gate.Run(nil, api.MaxTurns, func(t *gate.Thread) { got = x.all(t, calls...) })
	return aid.Texts(r.Log), got
}

// held: what each stripe holds, and the sum that is told.
func held(c *count.Counter) ([]int64, int64) {
	var l []int64
	var n int64
	r := gate.Run(nil, api.MaxTurns, func(t *gate.Thread) { n = c.Sum(t) })
	for _, a := range r.Log {
		l = append(l, a.Was)
	}
	return l, n
}

// stripeOf: who modulo stripes, reckoned by numbers that have no ends.
func stripeOf(who, stripes int) int {
	return int(new(big.Int).Mod(big.NewInt(int64(who)), big.NewInt(int64(stripes))).Int64())
}

// state: what things hold, and of how many tickets.
type state struct {
	added, peak, left, tickets int64
}

// does: the chapter's words of things that one alone calls: what they hold behind a call, and what it answers.
func does(s state, c call) (state, answer) {
	switch c.op {
	case add:
		s.added += c.n
		return s, answer{}
	case sum:
		return s, answer{n: s.added}
	case raise:
		rises := c.n > s.peak
		s.peak = max(s.peak, c.n)
		return s, answer{ok: rises}
	case top:
		return s, answer{n: s.peak}
	case take:
		if s.left == 0 {
			return s, answer{}
		}
		s.left--
		return s, answer{ok: true}
	case back:
		if s.left == s.tickets {
			return s, answer{e: api.ErrArg}
		}
		s.left++
		return s, answer{}
	}
	return s, answer{n: s.left}
}

// state: of things of this size that nobody has called.
func (m size) state() state { return state{peak: m.peak, left: m.tickets, tickets: m.tickets} }

// whos: some at the ends, some below 0.
func whos() []int {
	return []int{0, 1, -1, 2, -2, 63, 64, 65, -63, -64, -65, 1000, -1000, math.MaxInt, math.MaxInt - 1, math.MinInt, math.MinInt + 1}
}

// someCall: its values are some of those.
func someCall(r *rand.Rand, values []int64) call {
	return call{op: r.Intn(left + 1), n: values[r.Intn(len(values))], who: whos()[r.Intn(len(whos()))]}
}
