package limit_test

import (
	"slices"
	"strconv"
	"strings"

	"treadle/aid"
	"treadle/fault"
	"treadle/future"
	"treadle/limit"
	"treadle/token"
)

// What follows, as it is noticed of clocks, futures and tokens while calls are made of them.

// later: the time that is d behind n, by numbers that do not go round there.
func later(n, d int64) int64 { return int64(min(uint64(n)+uint64(d), 1<<62)) }

// times: what is noticed of a clock.
type times struct {
	begun  int64 // it is so late at most
	passed int64 // and at least
	stood  []*span
}

// begins notices that an Advance begins; and, where it has answered, how many it rang.
func (s *times) begins(d int64) (ends func(rang int)) {
	if d < 0 {
		return func(int) {}
	}
	s.begun = later(s.begun, d)
	stood := slices.Clone(s.stood)
	return func(rang int) {
		s.passed = later(s.passed, d)
		for _, x := range stood {
			x.rung = x.rung || rang < 64 && x.most <= s.passed
		}
	}
}

// span: between what a timer's due lies.
type span struct {
	of          *times
	d           int64
	least, most int64
	rung        bool // an Advance that began behind the Set, and reached the due, has answered
}

// begins notices that a call begins that is to set a timer.
func (w *world) begins(c call) *span {
	s := &span{of: w.time(c.clock), d: max(c.n, 0)}
	s.least = later(s.of.passed, s.d)
	return s
}

// stands notices that it has set it.
func (s *span) stands() *span {
	s.most = later(s.of.begun, s.d)
	s.of.stood = append(s.of.stood, s)
	return s
}

// late: whether somebody may be told by now that this due has come.
func (s *span) late(due int64) bool {
	return s != nil && s.least <= due && due <= s.most && due <= s.of.begun
}

// fact: what is noticed of a future.
type fact struct {
	x       *future.Future
	from    *fact // of what Within answered: what it waits for
	late    *span // and how long
	tried   []aid.Answer
	outside bool // somebody completes it, or claims it
	told    []aid.Answer
	faults  []string
}

// hold: what is noticed of a token.
type hold struct {
	k      *token.Token
	above  *hold
	late   *span // of what Deadline answered
	tried  []int64
	told   []int64
	faults []string
}

// of: what is noticed of what stands at this place; of what is none what nobody asks for.
func of[T any](l []*T, place int) *T {
	if place < 0 || place >= len(l) {
		return new(T)
	}
	return l[place]
}

func (w *world) time(place int) *times { return of(w.times, place) }
func (w *world) fact(place int) *fact  { return of(w.facts, place) }
func (w *world) hold(place int) *hold  { return of(w.holds, place) }

func (f *fact) fault(is bool, what string) {
	if is {
		f.faults = append(f.faults, what)
	}
}

func (h *hold) fault(is bool, what string) {
	if is {
		h.faults = append(h.faults, what)
	}
}

// tries notices that somebody begins to complete it.
func (f *fact) tries(a aid.Answer) {
	if a.E != nil {
		a.V = 0
	}
	f.tried, f.outside = append(f.tried, a), true
}

func (h *hold) tries(r int64) { h.tried = append(h.tried, r) }

// hears notices that somebody is told what it came to.
func (f *fact) hears(a aid.Answer) {
	f.told = append(f.told, a)
	f.fault(f.x != nil && !f.could(a), "somebody is told "+a.String()+" when it could not be so")
}

// hears notices that somebody is told its reason.
func (h *hold) hears(r int64) {
	n := len(h.told)
	h.fault(n > 0 && h.told[n-1] != 0 && h.told[n-1] != r, "it had another reason")
	h.fault(h.k != nil && r != 0 && !h.could(r), "somebody is told the reason "+strconv.FormatInt(r, 10)+" when it could not be so")
	h.told = append(h.told, r)
}

// could: whether it may have come to that, by what was begun so far.
func (f *fact) could(a aid.Answer) bool {
	late, is := a.E.(*fault.Late)
	return slices.Contains(f.tried, a) || f.from != nil && f.from.could(a) || is && late != nil && a.V == 0 && f.late.late(late.Due)
}

// could: whether it may have that reason, by what was begun so far.
func (h *hold) could(r int64) bool {
	return slices.Contains(h.tried, r) && r > 0 || h.above != nil && h.above.could(r) || r == limit.Late && h.late != nil && h.late.least <= h.late.of.begun
}

// follows: what is found that does not follow; nobody else is there. over: all threads have ended.
func (w *world) follows(over bool) (faults []string) {
	whole := over && !strings.Contains(w.story.String(), ":fell:")
	for i, f := range w.facts {
		f.ends(whole)
		for _, s := range f.faults {
			faults = append(faults, "what follows: the future "+strconv.Itoa(i)+": "+s)
		}
	}
	for i, h := range w.holds {
		h.ends(whole)
		for _, s := range h.faults {
			faults = append(faults, "what follows: the token "+strconv.Itoa(i)+": "+s)
		}
	}
	return faults
}

// ends: what is found of a future at the end. whole: nobody was stopped, or fell.
func (f *fact) ends(whole bool) {
	v, e, done := f.x.Peek(nil)
	a := aid.Told(v, e)
	if done {
		f.hears(a)
	}
	f.fault(slices.ContainsFunc(f.told, func(b aid.Answer) bool { return a != b }), "two are told unlike things")
	if f.from == nil || f.outside || !whole {
		return
	}
	v, e, filled := f.from.x.Peek(nil)
	late, is := a.E.(*fault.Late)
	is = is && late != nil && f.late.late(late.Due)
	f.fault(filled && !done, "what it waits for is filled, and it is not")
	f.fault(f.late.rung && !done, "its timer has rung, and it is not filled")
	f.fault(done && !filled && !is, "it is filled by nobody")
	f.fault(done && filled && !is && a != aid.Told(v, e), "it comes to something else")
}

// ends: what is found of a token at the end.
func (h *hold) ends(whole bool) {
	r := h.k.Reason(nil)
	h.hears(r)
	h.fault(whole && h.late != nil && h.late.rung && r == 0, "its timer has rung, and it lives")
	h.fault(whole && h.above != nil && h.above.k.Reason(nil) != 0 && r == 0, "that above it is cancelled, and it lives")
}
