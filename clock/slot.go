package clock

import (
	"treadle/cell"
	"treadle/gate"
)

// The kinds of a slot's states. A state is one of them, and kinds more for each time that the slot was used up.
const (
	free int64 = iota
	claimed
	set
	ringing
	kinds // how many there are
)

// slot holds one timer at a time. Its function is plain: it is his alone who has claimed the slot, or rings it.
type slot struct {
	state, due *cell.Cell
	rings      func(t *gate.Thread)
}

// kind: of a state. (A number below 0 is never set.)
func kind(x int64) int64 { return x % kinds }

// lay lays a timer into the slot, if that is free: the state that it is set with, and whether it is. Where the thread is stopped in its midst nobody ever comes to the function: the slot lets go of it.
func (s *slot) lay(t *gate.Thread, due int64, f func(t *gate.Thread)) (x int64, is bool) {
	x = s.state.Load(t)
	if kind(x) != free || !s.state.Cas(t, x, x+claimed) {
		return 0, false
	}
	s.rings = f
	defer func() {
		if !is {
			s.rings = nil
		}
	}()
	s.due.Store(t, due)
	s.state.Store(t, x+set) // behind all else: it lets in who rings
	return x + set, true
}

// ring calls the function of the timer that was seen with this state, if it is still set: whether it is.
func (s *slot) ring(t *gate.Thread, x int64) bool {
	if !s.state.Cas(t, x, x-set+ringing) {
		return false
	}
	f := s.rings
	s.rings = nil // it is called but once, and may never come back
	f(t)
	s.state.Store(t, x-set+kinds)
	return true
}
