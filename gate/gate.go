// Package gate is layer 1: threads that go step by step, as a schedule says. See shared/doc/01-gate.md.
package gate

import (
	"slices"
	"sync"

	"treadle/api"
)

// stopped: the gate's own value, with which the accesses of stopped threads panic.
type stopped struct{}

// Run plays the bodies by the picks, for so many turns at most, and tells what came of it.
func Run(picks []int, most int, bodies ...func(t *Thread)) api.Report {
	if len(bodies) > api.MaxThreads {
		return api.Report{}
	}
	most = min(max(most, 0), api.MaxTurns)
	picks = slices.Clone(picks[:min(most, len(picks))]) // a body may write to the caller's list
	r := begun(bodies)
	return r.finish(r.play(most, func(went, ready []int) int { return picked(picks, went, ready) }))
}

// Again plays the bodies so that the threads of went go, turn by turn. If one of them isn't ready, it tells at which turn.
func Again(went []int, bodies ...func(t *Thread)) (api.Report, api.Errno, int) {
	if len(went) > api.MaxTurns || len(bodies) > api.MaxThreads {
		return api.Report{}, api.ErrArg, 0
	}
	named := slices.Clone(went) // a body may write to the caller's list
	r := begun(bodies)
	end := r.play(len(named), func(went, ready []int) int { return among(named[len(went)], ready) })
	told := r.finish(end)
	if end == apart {
		return told, api.ErrApart, len(r.went)
	}
	return told, api.OK, 0
}

// Free calls each body with a nil thread, in a goroutine of its own, and tells which of them panicked.
func Free(bodies ...func(t *Thread)) []int {
	if len(bodies) > api.MaxThreads {
		return nil
	}
	bodies = slices.Clone(bodies) // a body may write to the caller's list while others are being begun
	panicked := make([]bool, len(bodies))
	var all sync.WaitGroup
	for i, body := range bodies {
		if body != nil {
			all.Go(func() { panicked[i] = panics(body) })
		}
	}
	all.Wait()
	var fell []int
	for i, p := range panicked {
		if p {
			fell = append(fell, i)
		}
	}
	return fell
}

// Is: whether x is what a stopped thread's access panics with.
func Is(x any) bool { return x == any(stopped{}) }

// panics calls a body of a free run.
func panics(body func(t *Thread)) (did bool) {
	defer func() { did = recover() != nil }()
	body(nil)
	return false
}
