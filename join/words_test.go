package join_test

import (
	"sync/atomic"

	"treadle/aid"
	"treadle/api"
	"treadle/fault"
	"treadle/future"
	"treadle/gate"
)

// The chapter's steps once more, on cells of their own: by threads of which one moves at a time, or by one alone who is free. What they hang on, and what is filled, are futures of package future.

var words = kind{wordsAll, wordsAny, wordsQuorum}

// worded: what a joint, or a future that hangs on others, has by the chapter's words.
type worded struct {
	left, good, bad atomic.Int64
	n               int64
	v               []int64
	e               []error
	g               *future.Future
}

func newWorded(l futures) *worded {
	x := &worded{n: int64(len(l)), v: make([]int64, len(l)), e: make([]error, len(l)), g: future.New()}
	x.left.Store(x.n)
	return x
}

// none: whether one is no future: nil, or without anything in it.
func none(l futures) bool {
	for _, x := range l {
		if x == nil || *x == (future.Future{}) {
			return true
		}
	}
	return false
}

// counts: the step of an Add: what is then.
func counts(t *gate.Thread, c *atomic.Int64, d int64) int64 {
	_, now, _ := aid.Step(t, c, api.OpAdd, d, 0)
	return now
}

func wordsAll(t *gate.Thread, l ...*future.Future) (joint, api.Errno) {
	if none(l) {
		return nil, api.ErrNil
	}
	x := newWorded(l)
	if len(l) == 0 {
		x.g.Complete(t, 0, nil)
	}
	for i, f := range l {
		if e := f.Then(t, func(t *gate.Thread, v int64, err error) {
			x.v[i], x.e[i] = v, err
			if counts(t, &x.left, -1) == 0 {
				x.last(t)
			}
		}); e == api.ErrFull {
			return nil, e
		}
	}
	return x, api.OK
}

// last: what the function does that is called last.
func (x *worded) last(t *gate.Thread) {
	for i, e := range x.e {
		if e != nil {
			x.g.Complete(t, 0, &fault.At{Number: i, Err: e})
			return
		}
	}
	x.g.Complete(t, x.n, nil)
}

func (x *worded) Future() *future.Future { return x.g }

func (x *worded) Values(t *gate.Thread) (l []int64, err error) {
	if _, err = x.g.Await(t); err == nil {
		l = append(l, x.v...)
	}
	return l, err
}

func wordsAny(t *gate.Thread, l ...*future.Future) (*future.Future, api.Errno) {
	if none(l) {
		return nil, api.ErrNil
	}
	if len(l) == 0 {
		return nil, api.ErrNone
	}
	x := newWorded(l)
	for i, f := range l {
		if e := f.Then(t, func(t *gate.Thread, v int64, err error) {
			if err == nil {
				x.g.Complete(t, v, nil)
			} else if x.e[i] = err; counts(t, &x.bad, 1) == x.n {
				x.g.Complete(t, 0, &fault.At{Number: 0, Err: x.e[0]})
			}
		}); e == api.ErrFull {
			return nil, e
		}
	}
	return x.g, api.OK
}

func wordsQuorum(t *gate.Thread, k int, l ...*future.Future) (*future.Future, api.Errno) {
	if none(l) {
		return nil, api.ErrNil
	}
	if k < 0 || k > len(l) {
		return nil, api.ErrArg
	}
	x := newWorded(l)
	if k == 0 {
		x.g.Complete(t, 0, nil)
		return x.g, api.OK
	}
	for _, f := range l {
		if e := f.Then(t, func(t *gate.Thread, _ int64, err error) {
			if err == nil && counts(t, &x.good, 1) == int64(k) {
				x.g.Complete(t, int64(k), nil)
			}
			if err != nil && counts(t, &x.bad, 1) == x.n-int64(k)+1 {
				x.g.Complete(t, 0, &fault.Failed{Code: x.n - int64(k) + 1})
			}
		}); e == api.ErrFull {
			return nil, e
		}
	}
	return x.g, api.OK
}
