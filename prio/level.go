package prio

import (
	"treadle/cell"
	"treadle/gate"
)

// The ends of a level: where is put, and where is taken.
const (
	in = iota
	out
)

// level is a bounded queue. Who puts and who takes claim positions, one by one, each at his own end.
type level struct {
	ends   [2]*cell.Cell // the position that is claimed next at each
	places []place       // of a power of two
}

// place is what several positions come to, one after the other. Its turn tells how far it is: a position, when it is free for who puts there; one more, when it is full for who takes there.
type place struct {
	turn, ticket, slot *cell.Cell
}

// newLevel: a level of so many places, whose positions begin with 0.
func newLevel(room int) level {
	l := level{ends: [2]*cell.Cell{in: cell.New(0), out: cell.New(0)}, places: make([]place, room)}
	for i := range l.places {
		l.places[i] = place{turn: cell.New(int64(i)), ticket: cell.New(0), slot: cell.New(0)}
	}
	return l
}

// vacant claims the next position where is put: which; false, if its place is not free.
func (l *level) vacant(t *gate.Thread) (int64, bool) {
	for {
		at := l.ends[in].Load(t)
		switch d := l.placeOf(at).turn.Load(t) - at; { // a difference, as positions go round
		case d < 0:
			return 0, false
		case d == 0 && l.claim(t, in, at):
			return at, true
		}
	}
}

// lay lays a ticket and a value at a position that is claimed.
func (l *level) lay(t *gate.Thread, at, ticket, v int64) {
	here := l.placeOf(at)
	here.ticket.Store(t, ticket)
	here.slot.Store(t, v)
	here.turn.Store(t, at+1) // behind the others: it lets in who takes
}

// first: the next position where is taken, and its ticket; false, if its place is not full.
func (l *level) first(t *gate.Thread) (at, ticket int64, is bool) {
	at = l.ends[out].Load(t)
	here := l.placeOf(at)
	if here.turn.Load(t) != at+1 {
		return 0, 0, false
	}
	return at, here.ticket.Load(t), true
}

// give hands out the value at a position that is claimed.
func (l *level) give(t *gate.Thread, at int64) int64 {
	here := l.placeOf(at)
	v := here.slot.Load(t)
	here.turn.Store(t, at+int64(len(l.places))) // behind the slot: it lets in who puts there next
	return v
}

// claim claims a position at an end, if nobody has claimed it: whether it does.
func (l *level) claim(t *gate.Thread, end int, at int64) bool { return l.ends[end].Cas(t, at, at+1) }

// placeOf: the place of a position.
func (l *level) placeOf(at int64) *place {
	return &l.places[uint64(at)&uint64(len(l.places)-1)] // of positions below 0, too, as there are a power of two
}
