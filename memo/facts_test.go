package memo_test

import (
	"slices"
	"strconv"

	"treadle/aid"
	"treadle/api"
	"treadle/fault"
)

// What follows, as it is noticed of keys while calls are made of their memos.

// asked: a key of a memo.
type asked struct {
	of  int
	key int64
}

// fact: what is noticed of a key.
type fact struct {
	begun, over int          // how often a build is called for it; how often one has answered, or panicked
	is          aid.Answer   // what its building comes to
	built       int          // how many were told that they built it
	told        []aid.Answer // to those who were not refused
	early       bool         // somebody was told ahead of the end of the building
	full        bool         // somebody was told that there is no room for it
}

// fact: of what a call asks for. (The builds of the tests do not come to an ErrFull.)
func (w *world) fact(c call) *fact {
	if c.of < 0 || c.of >= len(w.memos) || c.key < 0 || c.key+1 < 0 || c.does == nil {
		return &fact{}
	}
	k := asked{c.of, c.key}
	if w.facts[k] == nil {
		w.facts[k] = &fact{}
	}
	return w.facts[k]
}

// hears notices that somebody is told what came of the building, or that there is no room for it.
func (f *fact) hears(a aid.Answer, built bool) {
	f.built += aid.Digit(built)
	if a == aid.Told(0, api.ErrFull) && !built {
		f.full = true
		return
	}
	f.told = append(f.told, a)
	f.early = f.early || f.over == 0 || a.String() != f.is.String()
}

// comesTo: what a build that does so comes to.
func (d *deed) comesTo() aid.Answer {
	switch {
	case d.falls:
		return aid.Told(0, fault.Of(d.name))
	case d.is.E != nil:
		return aid.Told(0, d.is.E)
	}
	return d.is
}

// follows: what is found that does not follow; nobody else is there.
func (w *world) follows() (faults []string) {
	for k, f := range w.facts {
		fault := func(is bool, what string) {
			if is {
				faults = append(faults, "what follows: "+what+": the key "+strconv.FormatInt(k.key, 10)+" of the memo "+strconv.Itoa(k.of))
			}
		}
		there := w.memo(k.of).Keys(nil)
		has := slices.Contains(there, k.key)
		fault(f.begun > 1, "two are called")
		fault(f.built > 1, "two are told that they built it")
		fault(f.built == 1 && f.over != 1, "it is built, but its building has not ended")
		fault(slices.ContainsFunc(f.told, func(a aid.Answer) bool { return a != f.told[0] }), "two are told unlike things")
		fault(f.early, "somebody is told ahead of the end, or something else")
		fault(f.full && (has || len(there) != w.sizes[k.of]), "there was room for it")
		fault((f.begun > 0 || len(f.told) > 0) && !has, "nobody finds it among the keys")
	}
	for i, m := range w.memos {
		if l := slices.Sorted(slices.Values(m.Keys(nil))); len(l) > w.sizes[i] || len(slices.Compact(slices.Clone(l))) != len(l) {
			faults = append(faults, "what follows: the memo "+strconv.Itoa(i)+" has a key twice, or too many: "+keys(l))
		}
	}
	return faults
}

// marks: the kinds of a key's marks in a record; those of another thread than the first one's are told besides.
func marks(log []api.Access, key int64) (s string) {
	first := -1
	for _, a := range log {
		if a.Op != api.OpMark || a.Arg != key {
			continue
		}
		if s += " " + strconv.FormatInt(a.New, 10); first == -1 {
			first = a.Thread
		}
		if a.Thread != first {
			s += " by another"
		}
	}
	return s
}
