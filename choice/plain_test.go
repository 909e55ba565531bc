package choice_test

import (
	"strconv"
	"strings"
)

// Choices and pipes that one alone calls, by the chapters' words.

// queue: a pipe.
type queue struct {
	room, has int
	closed    bool
	values    string // those that are there, each with a blank behind it
}

// plain: three pipes at most, and two choices.
type plain struct {
	pipes   [3]queue
	tickets [2]int64
}

func newPlain(p plan) (s plain) {
	for i, n := range p.rooms {
		s.pipes[i].room = n
	}
	copy(s.tickets[:], p.tickets)
	return s
}

// refusal: why a call of a choice is none; okay, if it is one.
func refusal(c call) answer {
	for _, a := range c.arms {
		if a.of == null || a.of == unmade {
			return noPipe
		}
	}
	switch {
	case c.of < 0:
		return noPipe
	case len(c.arms) == 0:
		return noOne
	}
	for _, a := range c.arms {
		if a.of == strange {
			return apart
		}
	}
	return okay
}

// plainly: what there is behind a call, and what it answers. Of one that does not come back: sleeps.
func plainly(s plain, c call) (plain, answer) {
	if c.op == shut {
		was := s.pipes[c.of].closed
		s.pipes[c.of].closed = true
		if was {
			return s, shutNow
		}
		return s, okay
	}
	if c.chooses() {
		return plainlyChosen(s, c)
	}
	next, how, v := s.pipes[c.of].does(c.arm(0))
	s.pipes[c.of] = next
	if how == not && (c.op == send || c.op == recv) {
		return s, sleeps
	}
	return s, answer{how, -1, v}
}

// plainlyChosen: of a call of a choice.
func plainlyChosen(s plain, c call) (plain, answer) {
	if why := refusal(c); why != okay {
		return s, why
	}
	n := len(c.arms)
	first := around(s.tickets[c.of], n)
	s.tickets[c.of]++
	for j := range n {
		i := (first + j) % n
		a := c.arms[i]
		next, how, v := s.pipes[a.of].does(a)
		s.pipes[a.of] = next
		switch {
		case how == closed && a.send:
			return s, refusedBy(i)
		case how == closed:
			return s, overBy(i)
		case how == did:
			return s, got(i, v)
		}
	}
	if c.op == pick {
		return s, sleeps
	}
	return s, notYet
}

// around: n modulo so many, from 0 on.
func around(n int64, of int) int {
	m := int(n % int64(of))
	if m < 0 {
		m += of
	}
	return m
}

// does: what a pipe is behind a try, how that ends, and what it receives.
func (q queue) does(a arm) (queue, string, int64) {
	switch {
	case a.send && q.closed, !a.send && q.closed && q.has == 0:
		return q, closed, 0
	case a.send && q.has == q.room, !a.send && q.has == 0:
		return q, not, 0
	case a.send:
		q.has++
		q.values += strconv.FormatInt(a.v, 10) + " "
		return q, did, 0
	}
	first, rest, _ := strings.Cut(q.values, " ")
	v, _ := strconv.ParseInt(first, 10, 64)
	q.has--
	q.values = rest
	return q, did, v
}
