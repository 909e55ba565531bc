package join_test

import (
	"slices"
	"strconv"
	"strings"

	"treadle/aid"
	"treadle/fault"
	"treadle/future"
)

// What follows, as it is noticed of futures while calls are made of them.

// fact: what is noticed of a future.
type fact struct {
	x       *future.Future
	from    *hung        // what it hangs on, if it is made of others
	tried   []aid.Answer // what somebody began to complete it with, besides
	outside bool         // somebody completes it, or claims it, besides
	told    []aid.Answer // to those who awaited, peeked, asked, or were called
	faults  []string
}

// hung: what a future hangs on.
type hung struct {
	op, k int
	on    []*fact
}

// fact: of a future; of one that is none what nobody asks for.
func (w *world) fact(x *future.Future) *fact {
	if f := w.facts[x]; f != nil {
		return f
	}
	return &fact{}
}

func (f *fact) fault(is bool, what string) {
	if is {
		f.faults = append(f.faults, what)
	}
}

// tries notices that somebody begins to complete it.
func (f *fact) tries(a aid.Answer) {
	if a.E != nil {
		a.V = 0
	}
	f.tried, f.outside = append(f.tried, a), true
}

// hears notices that somebody is told what it came to.
func (f *fact) hears(a aid.Answer) {
	f.told = append(f.told, a)
	f.fault(!f.could(a), "somebody is told "+a.String()+" ahead of what it hangs on")
}

// asked notices that somebody is told a joint's values.
func (f *fact) asked(l []int64, e error) {
	if e != nil {
		f.hears(aid.Told(int64(len(l)), e))
		return
	}
	f.fault(len(l) != len(f.from.on), "there are too many values, or too few")
	if !f.outside {
		f.hears(aid.Told(int64(len(l)), nil))
	}
	for i, v := range l {
		f.fault(!f.from.on[i].could(aid.Told(v, nil)) && !(f.outside && v == 0), "somebody is told a value that it does not have")
	}
}

// could: whether it may come to that, by what was begun so far.
func (f *fact) could(a aid.Answer) bool {
	return slices.ContainsFunc(f.tried, func(b aid.Answer) bool { return same(a, b) }) || f.from != nil && f.from.could(a)
}

// may: whether it may have an error, or a value, by what was begun so far.
func (f *fact) may(fails bool) bool {
	return slices.ContainsFunc(f.tried, func(b aid.Answer) bool { return (b.E != nil) == fails }) || f.from != nil && f.from.may(fails)
}

// same: whether two answers are; of errors that are made anew whether they say the same.
func same(a, b aid.Answer) bool {
	if p, is := a.E.(*fault.At); is && p != nil {
		q, is := b.E.(*fault.At)
		return is && q != nil && a.V == b.V && p.Number == q.Number && same(aid.Told(0, p.Err), aid.Told(0, q.Err))
	}
	if p, is := a.E.(*fault.Failed); is && p != nil {
		q, is := b.E.(*fault.Failed)
		return is && q != nil && a.V == b.V && *p == *q
	}
	return a == b
}

// many: how many of what it hangs on may have an error, or a value.
func (h *hung) many(fails bool) (n int) {
	for _, f := range h.on {
		n += aid.Digit(f.may(fails))
	}
	return n
}

func (h *hung) may(fails bool) bool {
	n := len(h.on)
	switch {
	case h.op == allOf && !fails:
		return h.many(false) == n
	case h.op == allOf:
		return h.many(true) > 0 && !slices.ContainsFunc(h.on, func(f *fact) bool { return !f.may(true) && !f.may(false) })
	case h.op == anyOf && !fails:
		return h.many(false) > 0
	case h.op == anyOf:
		return h.many(true) == n
	case !fails:
		return h.many(false) >= h.k
	}
	return h.many(true) > n-h.k
}

func (h *hung) could(a aid.Answer) bool {
	if !h.may(a.E != nil) || a.E != nil && a.V != 0 {
		return false
	}
	at, wrapped := a.E.(*fault.At)
	switch {
	case h.op == allOf && a.E == nil:
		return a.V == int64(len(h.on))
	case h.op == anyOf && a.E == nil:
		return slices.ContainsFunc(h.on, func(f *fact) bool { return f.could(a) })
	case h.op == quorumOf && a.E == nil:
		return a.V == int64(h.k)
	case h.op == quorumOf:
		return same(a, aid.Told(0, &fault.Failed{Code: int64(len(h.on) - h.k + 1)}))
	case !wrapped || at == nil || at.Number < 0 || at.Number >= len(h.on) || h.op == anyOf && at.Number != 0:
		return false
	}
	for _, f := range h.on[:at.Number] {
		if !f.may(false) {
			return false
		}
	}
	return h.on[at.Number].could(aid.Told(0, at.Err))
}

// comesTo: what it is to come to by what the others have come to, if nobody completes it besides: one of these; none, as long as it is open.
func (h *hung) comesTo() (l []aid.Answer) {
	var values []aid.Answer
	errs := map[int]error{}
	for i, f := range h.on {
		v, e, done := f.x.Peek(nil)
		if done && e == nil {
			values = append(values, aid.Told(v, nil))
		} else if done {
			errs[i] = e
		}
	}
	n, first := len(h.on), 0
	for first < n && h.op == allOf && errs[first] == nil {
		first++
	}
	switch {
	case h.op == allOf && len(values) == n:
		return []aid.Answer{aid.Told(int64(n), nil)}
	case h.op == anyOf && len(values) > 0:
		return values
	case h.op != quorumOf && len(values)+len(errs) == n && (h.op == allOf || len(values) == 0):
		return []aid.Answer{aid.Told(0, &fault.At{Number: first, Err: errs[first]})}
	case h.op == quorumOf && len(values) >= h.k:
		return []aid.Answer{aid.Told(int64(h.k), nil)}
	case h.op == quorumOf && len(errs) > n-h.k:
		return []aid.Answer{aid.Told(0, &fault.Failed{Code: int64(n - h.k + 1)})}
	}
	return nil
}

// follows: what is found that does not follow; nobody else is there. over: all threads have ended.
func (w *world) follows(over bool) (faults []string) {
	whole := over && !strings.Contains(w.story.String(), ":fell:")
	for i, x := range w.all {
		f := w.facts[x]
		a := aid.Answer{}
		v, e, done := x.Peek(nil)
		if a = aid.Told(v, e); done {
			f.told = append(f.told, a)
		}
		found := slices.Clone(f.faults)
		fault := func(is bool, what string) {
			if is {
				found = append(found, what)
			}
		}
		fault(slices.ContainsFunc(f.told, func(a aid.Answer) bool { return a != f.told[0] }), "two are told unlike things")
		fault(done && !f.could(a), "it comes to what it can't: "+a.String())
		if f.from != nil && !f.outside && whole {
			want := f.from.comesTo()
			fault(done != (want != nil), "it is filled: "+aid.Yes(done))
			fault(done && !slices.ContainsFunc(want, func(b aid.Answer) bool { return same(a, b) }), "it comes to "+a.String())
		}
		for _, s := range found {
			faults = append(faults, "what follows: the future "+strconv.Itoa(i)+": "+s)
		}
	}
	return faults
}
