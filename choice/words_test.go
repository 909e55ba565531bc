package choice_test

import (
	"sync/atomic"

	"treadle/aid"
	"treadle/api"
	"treadle/cell"
	"treadle/choice"
	"treadle/gate"
	"treadle/pipe"
)

// words: a choice by the chapter's words: its steps once more, by those calls of the pipes that they name; its ticket is a cell of its own. By threads of which one moves at a time, or by one alone who is free.
type words struct {
	bell   *cell.Cell
	ticket atomic.Int64
}

// worded: by the chapter's words.
func worded(bell *cell.Cell, ticket int64) chooser {
	w := &words{bell: bell}
	w.ticket.Store(ticket)
	return w
}

// refuses: P21.2.
func (w *words) refuses(l []choice.Case) api.Errno {
	for _, x := range l {
		if x.Pipe == nil || x.Pipe.Bell() == nil {
			return api.ErrNil
		}
	}
	if len(l) == 0 {
		return api.ErrNone
	}
	for _, x := range l {
		if x.Pipe.Bell() != w.bell {
			return api.ErrArg
		}
	}
	return api.OK
}

func (w *words) Try(t *gate.Thread, l ...choice.Case) (int, int64, bool, api.Errno) {
	if e := w.refuses(l); e != api.OK {
		return -1, 0, false, e
	}
	_, k, _ := aid.Step(t, &w.ticket, api.OpAdd, 1, 0) // 1
	i, v, ok, e, found := w.looks(t, k, l)             // 2
	if !found {
		return -1, 0, false, api.OK
	}
	return i, v, ok, e
}

func (w *words) Select(t *gate.Thread, l ...choice.Case) (int, int64, bool, api.Errno) {
	if e := w.refuses(l); e != api.OK {
		return -1, 0, false, e
	}
	_, k, _ := aid.Step(t, &w.ticket, api.OpAdd, 1, 0) // 1
	for {
		b := w.bell.Load(t)                                // 2
		if i, v, ok, e, found := w.looks(t, k, l); found { // 3
			return i, v, ok, e
		}
		w.bell.Park(t, b) // 4
	}
}

// looks at the cases from the ticket k on.
func (w *words) looks(t *gate.Thread, k int64, l []choice.Case) (i int, v int64, ok bool, e api.Errno, found bool) {
	n := int64(len(l))
	for j := range n {
		at := ((k-1)%n + j) % n
		if at < 0 {
			at += n
		}
		i := int(at)
		if l[i].Send {
			switch l[i].Pipe.TrySend(t, l[i].Value) {
			case pipe.Did:
				return i, 0, true, api.OK, true
			case pipe.Closed:
				return i, 0, false, api.ErrClosed, true
			}
			continue
		}
		switch v, how := l[i].Pipe.TryRecv(t); how {
		case pipe.Did:
			return i, v, true, api.OK, true
		case pipe.Closed:
			return i, 0, false, api.OK, true
		}
	}
	return 0, 0, false, api.OK, false
}
