package gate

import (
	"sync/atomic"

	"treadle/api"
)

// Thread is one goroutine of a run. Ahead of each access it stands still, until the run lets it go.
type Thread struct {
	run     *run // nil of one that does not live
	number  int
	at      asked           // where it stands
	stands  chan asked      // to the run; closed when the thread has ended
	goes    chan api.Access // from the run: what the access came to; closed when the thread is stopped
	stopped bool
	fell    bool
}

// asked: an access that is not done yet.
type asked struct {
	op        int8
	cell      *atomic.Int64 // nil of a Go
	arg, next int64
	body      func(t *Thread) // of a Go
}

// Live: whether the thread is between its body's beginning and its end.
func (t *Thread) Live() bool { return t != nil && t.run != nil }

// Number: the thread's place in its run.
func (t *Thread) Number() int {
	if !t.Live() {
		return -1
	}
	return t.number
}

// Step is an access of a cell: what that was, what it is, whether a Cas found what it asked for.
func (t *Thread) Step(v *atomic.Int64, op int8, arg, next int64) (was, now int64, ok bool) {
	if !t.Live() || v == nil || op < api.OpLoad || op > api.OpPark {
		return 0, 0, false
	}
	if op == api.OpLoad {
		arg = 0
	}
	if op != api.OpCas {
		next = 0
	}
	done := t.stand(asked{op: op, cell: v, arg: arg, next: next})
	return done.Was, done.Now, done.Ok
}

// Go is an access that begins a new thread, and answers its number.
func (t *Thread) Go(f func(t *Thread)) int {
	if !t.Live() {
		return -1
	}
	return int(t.stand(asked{op: api.OpGo, body: f}).Now)
}

// Mark puts a word of the thread's own into the log.
func (t *Thread) Mark(a, b int64) {
	if t.Live() && !t.stopped {
		t.run.log = append(t.run.log, api.Access{Thread: t.number, Op: api.OpMark, Cell: -1, Arg: a, New: b})
	}
}

// stand waits until the run has done the access. A thread that was stopped once stands no more: the run doesn't listen.
func (t *Thread) stand(a asked) api.Access {
	if t.stopped {
		panic(stopped{})
	}
	t.stands <- a
	done, goes := <-t.goes
	if !goes {
		t.stopped = true
		panic(stopped{})
	}
	return done
}

// can: whether the access can be done.
func (a asked) can() bool { return a.op != api.OpPark || a.cell.Load() != a.arg }

// entry: what the log says of the access before it is done.
func (a asked) entry(thread int) api.Access {
	return api.Access{Thread: thread, Op: a.op, Cell: -1, Arg: a.arg, New: a.next}
}

// change does an access of a cell.
func (a asked) change() (was, now int64, ok bool) {
	was = a.cell.Load()
	now = was
	switch a.op {
	case api.OpStore, api.OpSwap:
		now = a.arg
	case api.OpAdd:
		now = was + a.arg
	case api.OpCas:
		if was == a.arg {
			now, ok = a.next, true
		}
	}
	if now != was {
		a.cell.Store(now)
	}
	return was, now, ok
}
