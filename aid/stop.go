package aid

import (
	"strconv"
	"sync/atomic"

	"treadle/api"
	"treadle/gate"
)

// Stops: a thread is stopped in a call, when it had so many turns, and makes others as it leaves: at which access it was; and what was found, as it is to be stopped in this one, and the gate's own panic is to come out of each.
func Stops[C any](turns int, do func(t *gate.Thread, c C), c C, later ...C) (stands string, faults []string) {
	var out []any
	makes := func(t *gate.Thread, c C) { out = append(out, Caught(func() { do(t, c) })) }
	r := gate.Run(nil, turns, func(t *gate.Thread) {
		defer func() {
			for _, c := range later {
				makes(t, c)
			}
		}()
		makes(t, c)
	})
	if r.End == api.Over || r.Turns != turns {
		faults = append(faults, "it is not stopped there")
	}
	for i, x := range out {
		if !gate.Is(x) {
			faults = append(faults, "the gate's own panic does not come out of the call number "+strconv.Itoa(i))
		}
	}
	return Texts(r.Left), faults
}

// Idle calls f with each kind of thread: those of NotLiving, one that lives, and one that is stopped: what was found, as f is to make neither an access nor a mark, and is to come back.
func Idle(f func(who string, t *gate.Thread)) (faults []string) {
	for who, t := range NotLiving() {
		f(who, t)
	}
	var x atomic.Int64
	came := false
	r := gate.Run(nil, 1, func(t *gate.Thread) {
		defer func() {
			f("one that is stopped", t)
			came = true
		}()
		f("one that lives", t)
		t.Step(&x, api.OpAdd, 1, 0)
		t.Step(&x, api.OpAdd, 1, 0)
	})
	if x.Load() != 1 || Texts(r.Log) != "0 add c0 1: 0" || Texts(r.Left) != "0 add c0 1: 1" {
		faults = append(faults, "one that lives: "+Texts(r.Log)+"; it stands at "+Texts(r.Left))
	}
	if !came {
		faults = append(faults, "one that is stopped does not come back")
	}
	return faults
}

// By calls f with each kind of thread that comes back from its accesses: those of NotLiving, and one that lives: what was found, as that one is to come to its end.
func By(f func(who string, t *gate.Thread)) (faults []string) {
	for who, t := range NotLiving() {
		f(who, t)
	}
	r := gate.Run(nil, api.MaxTurns, func(t *gate.Thread) { f("one that lives", t) })
	if r.End != api.Over || len(r.Fell) != 0 {
		faults = append(faults, "one that lives: "+told(r))
	}
	return faults
}

// Midsts: what a function may do about it that its thread is stopped at an access in its midst: at this add, but where it says otherwise.
func Midsts(add Body) map[string]Body {
	recovers := func(t *gate.Thread) { _ = Caught(func() { add(t) }) }
	return map[string]Body{
		"goes on":                        add,
		"recovers, and answers":          recovers,
		"recovers, and accesses more":    func(t *gate.Thread) { recovers(t); add(t) },
		"recovers, and panics":           func(t *gate.Thread) { recovers(t); panic("x") },
		"recovers, and panics with it":   func(t *gate.Thread) { defer func() { panic(recover()) }(); add(t) },
		"defers a panic":                 func(t *gate.Thread) { defer panic("x"); add(t) },
		"defers an access":               func(t *gate.Thread) { defer add(t); add(t) },
		"panics, and accesses meanwhile": func(t *gate.Thread) { defer add(t); panic("x") },
		"begins a thread":                func(t *gate.Thread) { t.Go(nil) },
	}
}
