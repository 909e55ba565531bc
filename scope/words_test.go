package scope_test

import (
	"sync/atomic"

	"treadle/aid"
	"treadle/api"
	"treadle/fault"
	"treadle/gate"
	"treadle/token"
)

// words: a scope by the chapter's words: its steps once more, on cells of its own, by threads of which one moves at a time, or by one alone who is free. Of a nil thread a task is done with at once.
type words struct {
	live, fail, last atomic.Int64
	k                *token.Token
	errs             map[int64]error
}

// worded: a scope by the chapter's words.
func worded(t *gate.Thread, k *token.Token) (thing, api.Errno) {
	if k == nil {
		return &words{k: token.New(), errs: map[int64]error{}}, api.OK
	}
	child, e := k.Child(t)
	if e != api.OK {
		return nil, e
	}
	return &words{k: child, errs: map[int64]error{}}, api.OK
}

func (s *words) Token() *token.Token { return s.k }

func (s *words) Go(t *gate.Thread, f function) (int, api.Errno) {
	if f == nil {
		return 0, api.ErrArg
	}
	for { // 1, 2
		x := aid.Load(t, &s.live)
		if x%2 != 0 {
			return 0, api.ErrClosed
		}
		if _, _, held := aid.Step(t, &s.live, api.OpCas, x, x+2); held {
			break
		}
	}
	_, n, _ := aid.Step(t, &s.last, api.OpAdd, 1, 0) // 3
	if n > 4096 {
		aid.Step(t, &s.live, api.OpAdd, -2, 0) // 4
		return 0, api.ErrFull
	}
	if t == nil {
		s.does(nil, n, f)
		return int(n), api.OK
	}
	if t.Go(func(u *gate.Thread) { s.does(u, n, f) }) == -1 { // 5
		aid.Step(t, &s.live, api.OpAdd, -2, 0) // 6
		return 0, api.ErrMany
	}
	return int(n), api.OK
}

// does: the task's thread.
func (s *words) does(u *gate.Thread, n int64, f function) {
	u.Mark(n, 7)
	e := s.caught(u, f)
	u.Mark(n, 8)
	if e != nil {
		s.errs[n] = e
		if was, _, _ := aid.Step(u, &s.fail, api.OpCas, 0, n); was == 0 { // a
			s.k.Cancel(u, 2)
		}
	}
	aid.Step(u, &s.live, api.OpAdd, -2, 0) // b
}

// caught: what the function answers, or panics with.
func (s *words) caught(u *gate.Thread, f function) (e error) {
	defer func() {
		if p := recover(); gate.Is(p) {
			panic(p)
		} else if p != nil {
			e = &fault.Panicked{Value: p}
		}
	}()
	return f(u, s.k)
}

func (s *words) Close(t *gate.Thread) bool {
	for {
		x := aid.Load(t, &s.live) // 1
		if x%2 != 0 {
			return false
		}
		if _, _, held := aid.Step(t, &s.live, api.OpCas, x, x+1); held { // 2
			return true
		}
	}
}

func (s *words) Wait(t *gate.Thread) error {
	s.Close(t)
	x := aid.Load(t, &s.live) // 1
	for x != 1 {
		x, _, _ = aid.Step(t, &s.live, api.OpPark, x, 0) // 2
	}
	n := aid.Load(t, &s.fail) // 3
	if n == 0 {
		return nil
	}
	return &fault.At{Number: int(n), Err: s.errs[n]}
}
