package latch

import (
	"treadle/api"
	"treadle/cell"
	"treadle/gate"
)

// What a Lock's cell holds.
const (
	free int64 = iota
	held
	waitedFor // held, and perhaps waited for
)

// Lock is had by one at a time.
type Lock struct {
	state *cell.Cell // nil of one that NewLock did not make
}

// NewLock: a lock that is free.
func NewLock() *Lock { return &Lock{state: cell.New(free)} }

// Lock answers when it is the caller's.
func (k *Lock) Lock(t *gate.Thread) api.Errno {
	if k.none() {
		return api.ErrNil
	}
	if k.state.Cas(t, free, held) {
		return api.OK
	}
lock:
	if k.state.Swap(t, waitedFor) != free { // who gets it here can't know whether others sleep: he takes it as waited for
		k.state.Park(t, waitedFor)
		goto lock
	}
	return api.OK
}

// Try takes the lock, if it is free: whether it does.
func (k *Lock) Try(t *gate.Thread) bool {
	if k.none() {
		return false
	}
	return k.state.Cas(t, free, held)
}

// Unlock frees the lock, whoever has it; an error, if nobody has.
func (k *Lock) Unlock(t *gate.Thread) api.Errno {
	if k.none() {
		return api.ErrNil
	}
	if k.state.Swap(t, free) == free {
		return api.ErrState
	}
	return api.OK
}

// none: whether it is nil, or NewLock did not make it.
func (k *Lock) none() bool { return k == nil || k.state == nil }
