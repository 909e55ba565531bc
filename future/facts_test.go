package future_test

import (
	"slices"
	"strconv"
	"strings"

	"treadle/aid"
	"treadle/fault"
)

// What follows, as it is noticed of futures while calls are made of them.

// fact: what is noticed of a future.
type fact struct {
	claimed, filled int          // how many were told that they did it
	tried           []aid.Answer // what somebody, or a Map's function, began to fill it with
	told            []aid.Answer // to those who awaited, peeked, or were called
	early           bool         // somebody was told what nobody had begun to fill it with
	from            *fact        // of what a Map answered: that of the future it is made from
}

// want: a function that is to be called when a future is filled; that of a Map, if it has a value.
type want[F any] struct {
	of      F
	maps    bool
	refused bool // it was told that there is no room for it
	called  int
}

// fact: of a future; of one that is none what nobody asks for.
func (w *world[F, P]) fact(x F) *fact {
	if f := w.facts[x]; f != nil {
		return f
	}
	return &fact{}
}

func (f *fact) claims(is bool) {
	if is {
		f.claimed++
	}
}

func (f *fact) fills(is bool) bool {
	if is {
		f.filled++
	}
	return is
}

// hears notices that somebody is told what the future came to.
func (f *fact) hears(a aid.Answer) {
	f.told = append(f.told, a)
	f.early = f.early || !f.began(a)
}

// began: whether somebody began to fill it with that; or the one that it is made from, if that is an error.
func (f *fact) began(a aid.Answer) bool {
	return slices.ContainsFunc(f.tried, func(b aid.Answer) bool { return same(a, b) }) || f.from != nil && a.E != nil && f.from.began(a)
}

// same: whether two answers are; of panics whether they carry the same.
func same(a, b aid.Answer) bool {
	p, is := a.E.(*fault.Panicked)
	q, isOne := b.E.(*fault.Panicked)
	return a == b || is && isOne && p.Value == q.Value && a.V == b.V
}

// comesTo: what a Map of this deed fills its future with, if it is called with v.
func (d *deed) comesTo(v int64) aid.Answer {
	if d.falls {
		return aid.Told(0, fault.Of(d.name))
	}
	return plain(aid.Told(v+d.is.V, d.is.E))
}

// follows: what is found that does not follow. over: all threads have ended.
func (w *world[F, P]) follows(over bool) (faults []string) {
	fault := func(is bool, what string, of int) {
		if is {
			faults = append(faults, what+": "+strconv.Itoa(of))
		}
	}
	for i, x := range w.all {
		f := w.facts[x]
		fault(f.claimed > 1, "two are told that they claim it: the future", i)
		fault(f.filled > f.claimed, "two are told that they fill it, or one who did not claim it: the future", i)
		fault(slices.ContainsFunc(f.told, func(a aid.Answer) bool { return a != f.told[0] }), "two are told unlike things: the future", i)
		fault(f.early, "somebody is told ahead of the filling: the future", i)
		if v, e, done := x.Peek(nil); done {
			fault(!f.began(aid.Told(v, e)) || e != nil && v != 0, "nobody fills it so: the future", i)
		}
	}
	whole := over && !strings.Contains(w.story.String(), ":fell:")
	for i, f := range w.wants {
		n := w.due(f)
		fault(f.called > n || whole && f.called < n, "it is called "+strconv.Itoa(f.called)+" times, not "+strconv.Itoa(n)+": the function", i)
	}
	return faults
}

// due: how often a function is to be called, of a future that is left as it is now.
func (w *world[F, P]) due(f *want[F]) int {
	_, e, done := f.of.Peek(nil)
	if !done || f.refused || f.maps && e != nil {
		return 0
	}
	return 1
}
