package choice_test

import (
	"slices"
	"strconv"
	"strings"

	"treadle/aid"
)

// What follows, as it is noticed while calls are made.

// facts: of all pipes and choices of a world.
type facts struct {
	pipes   []*fact
	tickets []int64 // of each choice: what it was at first, and one more for each call that was not refused
	midst   []*job  // the calls that have not been answered
	hurt    bool    // somebody was left in the midst of a call, and does not sleep
	faults  []string
}

// fact: of a pipe.
type fact struct {
	room    int
	in, out []int64 // what those sent, and received, who have been answered so
	begun   int     // so many Closes have begun
	closed  bool    // one has been answered so
}

// job: a call.
type job struct {
	call
	alone  bool   // nobody was in the midst of another call meanwhile
	closed []bool // of each pipe whether it was closed as it began
}

func newFacts(p plan) *facts {
	f := &facts{tickets: slices.Clone(p.tickets)}
	for _, n := range p.rooms {
		f.pipes = append(f.pipes, &fact{room: n})
	}
	return f
}

func (f *facts) fault(is bool, what string) {
	if is {
		f.faults = append(f.faults, "what follows: "+what)
	}
}

// begins notices that a call begins.
func (f *facts) begins(c call) *job {
	j := &job{call: c, alone: len(f.midst) == 0}
	for _, o := range f.midst {
		o.alone = false
	}
	for _, p := range f.pipes {
		j.closed = append(j.closed, p.closed)
	}
	f.midst = append(f.midst, j)
	if c.op == shut {
		f.pipes[c.of].begun++
	}
	if c.chooses() && refusal(c) == okay {
		f.tickets[c.of]++
	}
	return j
}

// ends notices what a call is answered.
func (f *facts) ends(j *job, a answer) {
	f.midst = slices.DeleteFunc(f.midst, func(o *job) bool { return o == j })
	if j.alone && !f.hurt {
		want := f.alone(j, a)
		f.fault(a != want, j.String()+": with nobody in the midst of a call it is answered "+a.String()+", not "+want.String())
	}
	switch {
	case j.op == shut:
		p := f.pipes[j.of]
		f.fault(a == okay && p.closed, "two have closed a pipe")
		p.closed = p.closed || a == okay
	case j.chooses() && a.i < 0:
		why := refusal(j.call)
		f.fault(why != okay && a != why, j.String()+": it is answered "+a.String()+", not "+why.String())
		f.fault(why == okay && (j.op != try || a != notYet), j.String()+": it is answered "+a.String())
	default:
		f.does(j, j.arm(max(a.i, 0)), a)
	}
}

// does notices what a call did to a pipe.
func (f *facts) does(j *job, x arm, a answer) {
	f.fault(j.chooses() != (a.i >= 0), j.String()+": it tells of the case "+a.String())
	p := f.pipes[x.of]
	switch {
	case a.how == did && x.send:
		f.fault(j.closed[x.of], j.String()+": it sends into a pipe that is closed")
		p.in = append(p.in, x.v)
	case a.how == did:
		p.out = append(p.out, a.v)
	case a.how != not:
		f.fault(p.begun == 0, j.String()+": nobody has closed it: "+a.String())
	}
}

// alone: what a call is to be answered that nobody else is in the midst of a call of, but for the value.
func (f *facts) alone(j *job, a answer) answer {
	var s plain
	for i, p := range f.pipes {
		has := len(p.in) - len(p.out)
		s.pipes[i] = queue{p.room, has, j.closed[i], strings.Repeat(strconv.FormatInt(a.v, 10)+" ", max(has, 0))}
	}
	copy(s.tickets[:], f.tickets)
	if j.chooses() && refusal(j.call) == okay {
		s.tickets[j.of]--
	}
	_, want := plainly(s, j.call)
	return want
}

// follows: what is found behind a run; whether it is dead, so that all in the midst of a call sleep, and have done nothing.
func (f *facts) follows(dead bool) []string {
	if dead && !f.hurt {
		for _, j := range f.midst {
			f.sleeps(j)
		}
		f.midst = nil
	}
	f.hurt = f.hurt || len(f.midst) > 0
	if !f.hurt {
		for i, p := range f.pipes {
			f.balances(p, "the pipe "+strconv.Itoa(i))
		}
	}
	return f.faults
}

// sleeps: what is found of a call that sleeps for good: that none of its cases is ready.
func (f *facts) sleeps(j *job) {
	f.fault(j.mayNotSleep(), j.String()+": it sleeps")
	for i := range max(len(j.arms), aid.Digit(!j.chooses())) {
		x := j.arm(i)
		p := f.pipes[x.of]
		has := len(p.in) - len(p.out)
		f.fault(p.closed, j.String()+": it sleeps, while a pipe is closed")
		f.fault(x.send && has < p.room, j.String()+": it sleeps, while there is room in a pipe")
		f.fault(!x.send && has > 0, j.String()+": it sleeps, while something is there")
	}
}

// balances: what is found of a pipe while nobody is in the midst of a call: each value that was received was sent, and is received once.
func (f *facts) balances(p *fact, which string) {
	has := len(p.in) - len(p.out)
	f.fault(has < 0 || has > p.room, which+": so many are there: "+strconv.Itoa(has))
	left := slices.Clone(p.in)
	for _, v := range p.out {
		i := slices.Index(left, v)
		f.fault(i < 0, which+": what is received is not there: "+strconv.FormatInt(v, 10))
		if i >= 0 {
			left = slices.Delete(left, i, i+1)
		}
	}
}
