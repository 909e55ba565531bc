package scope

import (
	"treadle/fault"
	"treadle/gate"
	"treadle/token"
)

// The kinds of a task's marks.
const (
	begins = 7
	ends   = 8
)

// failure: of the task with that number. It is the task's own till fail tells of it; where another task was first nobody ever knows of it.
type failure struct {
	number int64
	err    error
}

// begin begins a task's thread in t's run, or, if t is nil, a goroutine: whether it does.
func (s *Scope) begin(t *gate.Thread, run func(t *gate.Thread)) bool {
	if t != nil {
		return t.Go(run) >= 0
	}
	s.free.Go(func() {
		defer func() { _ = recover() }() // a goroutine falls as a thread does: its panic is nobody else's
		run(nil)
	})
	return true
}

// run is what a task's thread does.
func (s *Scope) run(t *gate.Thread, n int64, f func(t *gate.Thread, k *token.Token) error) {
	t.Mark(n, begins)
	_, err := fault.Catch(func() (int64, error) { return 0, f(t, s.token) })
	t.Mark(n, ends)
	if err != nil {
		s.fails(t, &failure{number: n, err: err})
	}
	s.live.Add(t, -task)
}

// fails tells of a failure, and cancels the token, if no other task has failed ahead of it.
func (s *Scope) fails(t *gate.Thread, x *failure) {
	if s.fail.Cas(t, 0, x.number) {
		s.first = x
		s.token.Cancel(t, Failed)
	}
}
