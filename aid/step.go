package aid

import (
	"sync/atomic"

	"treadle/api"
	"treadle/gate"
)

// Step is an access of a cell of a test's own: the thread's, if it lives; else one by somebody who is alone. What was, what is, and, of a Cas, whether it is done.
func Step(t *gate.Thread, cell *atomic.Int64, op int8, arg, next int64) (was, now int64, ok bool) {
	if t.Live() {
		return t.Step(cell, op, arg, next)
	}
	was = cell.Load()
	now, ok = was, op == api.OpCas && was == arg
	switch {
	case op == api.OpStore || op == api.OpSwap:
		now = arg
	case op == api.OpAdd:
		now = was + arg
	case ok:
		now = next
	}
	cell.Store(now)
	return was, now, ok
}

// Load is a Step of that kind: what was.
func Load(t *gate.Thread, cell *atomic.Int64) int64 {
	was, _, _ := Step(t, cell, api.OpLoad, 0, 0)
	return was
}
