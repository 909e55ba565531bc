package join

import (
	"slices"

	"treadle/api"
	"treadle/future"
	"treadle/gate"
)

// hang sees to it that f is called for each of the futures, with its number and what it comes to; an error, if one has no room for that: it is called for those ahead of it all the same. (The list is taken as it is now: other threads may go in the midst of this one's accesses.)
func hang(t *gate.Thread, l []*future.Future, f func(t *gate.Thread, i int, v int64, err error)) api.Errno {
	for i, x := range slices.Clone(l) {
		e := x.Then(t, func(t *gate.Thread, v int64, err error) { f(t, i, v, err) })
		if e != api.OK {
			return e
		}
	}
	return api.OK
}

// unmade: whether one of these is nil, or its package's own calls did not make it. (A Then without a function makes no access.)
func unmade(l []*future.Future) bool {
	return slices.ContainsFunc(l, func(x *future.Future) bool { return x.Then(nil, nil) == api.ErrNil })
}

// unless: the future, unless there is an error.
func unless(e api.Errno, g *future.Future) (*future.Future, api.Errno) {
	if e != api.OK {
		return nil, e
	}
	return g, api.OK
}
