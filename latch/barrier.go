package latch

import (
	"treadle/api"
	"treadle/cell"
	"treadle/gate"
)

// The places of a Barrier's cells.
const (
	theRound = iota
	theCount
	places
)

// Barrier holds up who arrives till so many have; then the next round begins.
type Barrier struct {
	n     int64
	cells [places]*cell.Cell // nil of one that NewBarrier did not make
}

// NewBarrier: a barrier that n go through together.
func NewBarrier(n int64) (*Barrier, api.Errno) {
	if n < 1 {
		return nil, api.ErrArg
	}
	b := &Barrier{n: n}
	for place := range places {
		b.cells[place] = cell.New(0)
	}
	return b, api.OK
}

// Arrive answers when all of the round have arrived: the round, and whether the caller came last.
func (b *Barrier) Arrive(t *gate.Thread) (round int64, last bool, e api.Errno) {
	if b.none() {
		return 0, false, api.ErrNil
	}
	round = b.cells[theRound].Load(t)
	if b.cells[theCount].Add(t, 1) != b.n {
		b.cells[theRound].Park(t, round)
		return round, false, api.OK
	}
	b.cells[theCount].Store(t, 0) // ahead of the round: who is let go may arrive again at once
	b.cells[theRound].Add(t, 1)
	return round, true, api.OK
}

// none: whether it is nil, or NewBarrier did not make it.
func (b *Barrier) none() bool { return b == nil || b.cells[theRound] == nil }
