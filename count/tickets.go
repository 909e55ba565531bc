package count

import (
	"treadle/api"
	"treadle/cell"
	"treadle/gate"
)

// Tickets are so many; who takes one may give it back.
type Tickets struct {
	all  int64
	left *cell.Cell // nil of what NewTickets did not make
}

// NewTickets: n tickets, all of them left.
func NewTickets(n int64) (*Tickets, api.Errno) {
	if n < 0 {
		return nil, api.ErrArg
	}
	return &Tickets{all: n, left: cell.New(n)}, api.OK
}

// Take takes a ticket, if one is left: whether it does.
func (k *Tickets) Take(t *gate.Thread) bool {
	if k.none() {
		return false
	}
	takes := false
take:
	for {
		switch x := k.left.Load(t); {
		case x == 0:
			break take
		case k.left.Cas(t, x, x-1):
			takes = true
			break take
		}
	}
	return takes
}

// Back gives a ticket back; an error, if all are left.
func (k *Tickets) Back(t *gate.Thread) api.Errno {
	if k.none() {
		return api.ErrNil
	}
	e := api.OK
back:
	for {
		switch x := k.left.Load(t); {
		case x == k.all:
			e = api.ErrArg
			break back
		case k.left.Cas(t, x, x+1):
			break back
		}
	}
	return e
}

// Left: how many tickets are left.
func (k *Tickets) Left(t *gate.Thread) int64 {
	if k.none() {
		return 0
	}
	return k.left.Load(t)
}

// none: whether it is nil, or NewTickets did not make them.
func (k *Tickets) none() bool { return k == nil || k.left == nil }
