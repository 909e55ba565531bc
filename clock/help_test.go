package clock_test

import (
	"math"
	"strconv"
	"strings"

	"treadle/aid"
	"treadle/api"
	"treadle/clock"
	"treadle/gate"
)

// What a call does.
const (
	now = iota
	set
	stop
	advance
)

// call: n is the due of a Set, or how far an Advance goes.
type call struct {
	op    int
	n     int64
	rings *bell
	timer clock.Timer // that is stopped
}

var looks = call{op: now}

func sets(due int64, b *bell) call           { return call{op: set, n: due, rings: b} }
func stops(slot int, ring int64) call        { return call{op: stop, timer: timer(slot, ring)} }
func advances(d int64) call                  { return call{op: advance, n: d} }
func timer(slot int, ring int64) clock.Timer { return clock.Timer{Slot: slot, Ring: ring} }

// String: for the texts of tests that fail.
func (c call) String() string { return c.deep(3) }

func (c call) deep(most int) string {
	n := strconv.FormatInt(c.n, 10)
	switch {
	case c.op == set && c.rings == nil:
		return "Set " + n + " of none"
	case c.op == set:
		s := "Set " + n + " " + c.rings.name
		for _, x := range c.rings.calls {
			if most > 0 {
				s += " (" + x.deep(most-1) + ")"
			}
		}
		return s + map[bool]string{true: " falls"}[c.rings.falls]
	case c.op == stop:
		return "Stop " + strconv.Itoa(c.timer.Slot) + "/" + strconv.FormatInt(c.timer.Ring, 10)
	case c.op == advance:
		return "Advance " + n
	}
	return "Now"
}

// bell: what a timer's function does: it makes calls of its clock, and then comes back, or panics with its name.
type bell struct {
	name  string
	calls []call
	falls bool
}

func quiet(name string) *bell                 { return &bell{name: name} }
func busies(name string, calls ...call) *bell { return &bell{name: name, calls: calls} }
func fallen(name string, calls ...call) *bell {
	return &bell{name: name, calls: calls, falls: true}
}

// endless: a bell that sets itself anew.
func endless(name string, due int64) *bell {
	b := quiet(name)
	b.calls = []call{sets(due, b)}
	return b
}

// chain: a bell that sets another one, and so on: so many in all.
func chain(name string, n int, due int64) *bell {
	b := quiet(name)
	for range n - 1 {
		b = busies(name, sets(due, b))
	}
	return b
}

// answer: n of a Now or an Advance, timer of a Set, ok of a Stop; heard of an Advance: what the bells that rang were answered; fell: the bell whose panic came out.
type answer struct {
	n     int64
	timer clock.Timer
	ok    bool
	e     api.Errno
	heard string
	fell  string
}

// What calls are answered.
var yes, no, full, busy, wrong = answer{ok: true}, answer{}, answer{e: api.ErrFull}, answer{e: api.ErrBusy}, answer{e: api.ErrArg}

func at(n int64) answer                      { return answer{n: n} }
func laid(slot int, ring int64) answer       { return answer{timer: timer(slot, ring)} }
func rung(n int64, heard string) answer      { return answer{n: n, heard: heard} }
func falls(name string, heard string) answer { return answer{fell: name, heard: heard} }

// text: of an answer to a call that a bell makes.
func (a answer) text(c call) string {
	switch {
	case a.e != api.OK:
		return a.e.Error() + " "
	case c.op == set:
		return strconv.Itoa(a.timer.Slot) + "/" + strconv.FormatInt(a.timer.Ring, 10) + " "
	case c.op == stop && a.ok:
		return "yes "
	case c.op == stop:
		return "no "
	}
	return strconv.FormatInt(a.n, 10) + " "
}

// heard: the text of a bell that rang.
func (b *bell) heard(answers string) string {
	if len(b.calls) == 0 {
		return b.name + " "
	}
	return b.name + "( " + answers + ") "
}

// played: a clock, and what its bells were answered since somebody was told of it. (Of Advances one goes on at a time.)
type played struct {
	*clock.Clock
	heard string
}

func newClock() *played { return &played{Clock: clock.New()} }

// function: that of a timer with this bell; none of none.
func (p *played) function(b *bell) func(t *gate.Thread) {
	if b == nil {
		return nil
	}
	return func(t *gate.Thread) {
		s := ""
		for _, c := range b.calls {
			s += do(p, t, c).text(c)
		}
		if p.heard += b.heard(s); b.falls {
			panic(b.name)
		}
	}
}

// do makes the call, by its thread or free.
func do(p *played, t *gate.Thread, c call) (a answer) {
	switch c.op {
	case now:
		a.n = p.Now(t)
	case set:
		a.timer, a.e = p.Set(t, c.n, p.function(c.rings))
	case stop:
		a.ok = p.Stop(t, c.timer)
	case advance:
		a = p.advances(t, c.n)
	}
	return a
}

// advances makes an Advance, and catches the panic of a bell.
func (p *played) advances(t *gate.Thread, d int64) (a answer) {
	defer func() {
		switch x := recover().(type) {
		case nil:
		case string:
			a = falls(x, p.told())
		default:
			panic(x)
		}
	}()
	n, e := p.Advance(t, d)
	a = answer{n: int64(n), e: e}
	if e == api.OK {
		a.heard = p.told()
	}
	return a
}

// told: what the bells were answered; behind it that is told.
func (p *played) told() string {
	s := p.heard
	p.heard = ""
	return s
}

// makes makes the calls, one behind the other.
func makes(p *played, t *gate.Thread, calls ...call) []answer {
	var got []answer
	for _, c := range calls {
		got = append(got, do(p, t, c))
	}
	return got
}

// alone: the record of calls that one thread makes.
func alone(p *played, calls ...call) (api.Report, []answer) {
	var got []answer
	report := gate.Run(nil, api.MaxTurns, func(t *gate.Thread) { got = makes(p, t, calls...) })
	return report, got
}

// standing: a slot; its bell, if it is set.
type standing struct {
	state, due int64
	rings      *bell
}

// plain: a clock that one alone calls, by the chapter's words.
type plain struct {
	now   int64
	busy  bool
	slots [api.MaxTimers]standing
}

// does: what a clock is behind a call, and what it answers.
func does(s plain, c call) (plain, answer) {
	a := s.does(c)
	return s, a
}

func (s *plain) does(c call) answer {
	switch c.op {
	case set:
		return s.set(c)
	case stop:
		return s.stop(c.timer)
	case advance:
		return s.advance(c.n)
	}
	return at(s.now)
}

func (s *plain) set(c call) answer {
	if c.n < 0 || c.n > 1<<62 || c.rings == nil {
		return wrong
	}
	for i, x := range s.slots {
		if x.state%4 == 0 {
			s.slots[i] = standing{x.state + 2, c.n, c.rings}
			return laid(i, x.state+2)
		}
	}
	return full
}

func (s *plain) stop(x clock.Timer) answer {
	if x.Slot < 0 || x.Slot > 15 || x.Ring < 0 || x.Ring%4 != 2 || s.slots[x.Slot].state != x.Ring {
		return no
	}
	s.slots[x.Slot] = standing{state: x.Ring + 2}
	return yes
}

func (s *plain) advance(d int64) answer {
	if d < 0 {
		return wrong
	}
	if s.busy {
		return busy
	}
	s.busy, s.now = true, later(s.now, d)
	a := rung(0, "")
	for a.n < 64 {
		i := s.first()
		if i < 0 {
			break
		}
		b := s.slots[i].rings
		x := s.slots[i].state
		s.slots[i] = standing{state: x + 1}
		answers := ""
		for _, c := range b.calls {
			answers += s.does(c).text(c)
		}
		if a.heard += b.heard(answers); b.falls {
			return falls(b.name, a.heard)
		}
		s.slots[i].state = x + 2
		a.n++
	}
	s.busy = false
	return a
}

// first: the slot of the timer that is to ring; -1: none is.
func (s *plain) first() int {
	i := -1
	for k, x := range s.slots {
		if x.state%4 == 2 && x.due <= s.now && (i < 0 || x.due < s.slots[i].due) {
			i = k
		}
	}
	return i
}

// later: the time that is d behind n, by numbers that do not go round there.
func later(n, d int64) int64 { return int64(min(uint64(n)+uint64(d), 1<<62)) }

// asPlain: whether one alone is answered so.
func asPlain(s plain, calls []call, got []answer) bool { return aid.Plainly(s, calls, got, does) }

// fills: calls that set so many timers of this due.
func fills(n int, due int64) (l []call) {
	for i := range n {
		l = append(l, sets(due, quiet("f"+strconv.Itoa(i))))
	}
	return l
}

// tells: calls that tell all of a clock: which time it is, whether it is busy, which slots are free, and with which states; and, if it is not busy, what is set, by its ringing.
func tells() []call {
	l := append([]call{looks, advances(0)}, fills(api.MaxTimers+1, 1<<62)...)
	return append(l, advances(math.MaxInt64), looks, advances(5), looks)
}

// times: some that may be dues, and some that may not.
func times() []int64 {
	return []int64{0, 1, 2, 3, 7, 1 << 31, 1<<32 + 1, 1<<62 - 1, 1 << 62, 1<<62 + 1, math.MaxInt64, -1, -2, math.MinInt64, -1 << 62}
}

// loads: the texts of the loads, by the thread 0, of cells that follow one another and hold these.
func loads(cell int, held ...int64) string { return loadsBy(0, cell, held...) }

func loadsBy(thread, cell int, held ...int64) string {
	var l []string
	for i, v := range held {
		l = append(l, strconv.Itoa(thread)+" load c"+strconv.Itoa(cell+i)+": "+strconv.FormatInt(v, 10))
	}
	return strings.Join(l, "; ")
}

// frees: so many states, of slots that were never used.
func frees(n int) []int64 { return make([]int64, n) }

// endlessly: what is heard of a bell that sets itself anew on a clock of its own, from the time on that it rings for the time number first, so often: it is in two slots by turns.
func endlessly(name string, first, times int) (s string) {
	for k := first; k < first+times; k++ {
		s += name + "( " + strconv.Itoa(k%2) + "/" + strconv.Itoa(k/2*4+2) + " ) "
	}
	return s
}
