package pipe_test

import (
	"slices"
	"strconv"

	"treadle/aid"
	"treadle/gate"
)

// What follows, as it is noticed of pipes while calls are made of them.

// fact: what is noticed of a pipe.
type fact struct {
	room   int
	sent   []*job         // those that send, in the order in which they began
	midst  []*job         // those that have not been answered
	in     int            // so many have sent, and been answered so
	out    int            // so many have received, and been answered so
	begun  int            // so many Closes have begun
	closed bool           // a Close has closed it, and been answered so
	over   bool           // one who receives was told that it is closed
	hurt   bool           // somebody was left in the midst of a call
	got    map[[2]int]int // by who sent and who received: the last of sent
	faults []string
}

// job: what is noticed of a call.
type job struct {
	call
	hand     int
	over     bool // it has been answered
	sent     bool // so that it has sent
	received bool // somebody has received what it sends
	alone    bool // nobody was in the midst of another call meanwhile
	closed   bool // what was closed, or over, as it began
	ended    bool
}

func (f *fact) fault(is bool, what string) {
	if is {
		f.faults = append(f.faults, what)
	}
}

// begins notices that a call begins.
func (f *fact) begins(t *gate.Thread, c call) *job {
	j := &job{call: c, hand: t.Number(), alone: len(f.midst) == 0, closed: f.closed, ended: f.over}
	for _, o := range f.midst {
		o.alone = false
	}
	f.midst = append(f.midst, j)
	if c.isSending() {
		f.sent = append(f.sent, j)
	}
	f.begun += aid.Digit(c.op == shut)
	return j
}

// ends notices what a call is answered.
func (f *fact) ends(j *job, a answer) {
	f.midst = slices.DeleteFunc(f.midst, func(o *job) bool { return o == j })
	j.over = true
	if j.alone && !f.hurt {
		values := ""
		if f.in > f.out {
			values = strconv.FormatInt(a.v, 10) + " "
		}
		_, want := plainly(plain{room: f.room, closed: f.closed, has: f.in - f.out, values: values}, j.call)
		f.fault(a != want, "with nobody in the midst of a call it is answered "+a.String()+", not "+want.String())
	}
	f.fault(a.how == closed && f.begun-aid.Digit(j.op == shut) == 0, "nobody has closed it")
	switch {
	case j.isSending():
		f.sends(j, a)
	case j.op == shut:
		f.fault(a.how == did && f.closed, "two have closed it")
		f.fault(a.how != did && a.how != closed, "a Close tells "+a.how)
		f.closed = f.closed || a.how == did
	default:
		f.receives(j, a)
	}
}

// sends notices what one who sends is answered.
func (f *fact) sends(j *job, a answer) {
	f.fault(j.closed && a.how != closed, "a call that sends, and begins behind a Close's end, does something")
	f.fault(j.received && a.how != did, "what was not sent is received")
	f.fault(a.v != 0, "one who sends receives")
	j.sent = a.how == did
	f.in += aid.Digit(j.sent)
}

// receives notices what one who receives is answered.
func (f *fact) receives(j *job, a answer) {
	f.fault(j.ended && a.how != closed, "who receives is told that it is closed, and then another thing")
	f.fault(a.how != did && a.v != 0, "a value beside none")
	switch a.how {
	case closed:
		f.over = true
		receiving := 0
		for _, o := range f.midst {
			receiving += aid.Digit(o.op == ask || o.op == recv)
		}
		f.fault(f.in > f.out+receiving, "who receives is told that it is closed, and something is there")
	case did:
		f.out++
		f.fault(f.out > len(f.sent), "more is received than was sent")
		f.comes(j, a.v)
	}
}

// comes notices what is received: one that is sent, and not received yet; of one who sends in his order.
func (f *fact) comes(j *job, v int64) {
	var last, met int
	var of *job
	for i, s := range f.sent {
		if s.v != v {
			continue
		}
		met++
		if of == nil && !s.received && (s.sent || !s.over) {
			of, last = s, i
		}
	}
	if of == nil {
		f.fault(true, "what is received is not there: "+strconv.FormatInt(v, 10))
		return
	}
	of.received = true
	if met > 1 { // it may have been either
		return
	}
	who := [2]int{of.hand, j.hand}
	before, is := f.got[who]
	f.fault(is && before >= last, "values come in another order than they were sent in")
	f.got[who] = last
}

// follows: what is found behind a run that does not follow; whether it is dead, so that all in the midst of a call sleep.
func (w *world) follows(dead bool) (faults []string) {
	for i, f := range w.facts {
		if dead && !f.hurt {
			for _, j := range f.midst {
				f.fault(f.closed, "somebody sleeps on a pipe that is closed")
				f.fault(j.isSending() && f.in-f.out != f.room, "one who sends sleeps, while there is room")
				f.fault(!j.isSending() && f.in != f.out, "one who receives sleeps, while something is there")
				f.fault(j.op == try || j.op == ask || j.op == shut, "a call sleeps that is not to")
			}
		}
		if len(f.midst) == 0 && !f.hurt {
			f.fault(f.in-f.out < 0 || f.in-f.out > f.room, "so many are there: "+strconv.Itoa(f.in-f.out))
		}
		f.hurt = f.hurt || len(f.midst) > 0
		for _, s := range f.faults {
			faults = append(faults, "what follows: the pipe "+strconv.Itoa(i)+": "+s)
		}
	}
	return faults
}
