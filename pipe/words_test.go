package pipe_test

import (
	"sync/atomic"

	"treadle/aid"
	"treadle/api"
	"treadle/gate"
)

// wordedBell: a cell of a test's own.
type wordedBell struct{ x atomic.Int64 }

func (b *wordedBell) Load(t *gate.Thread) int64 { return aid.Load(t, &b.x) }

func (b *wordedBell) Add(t *gate.Thread, d int64) int64 {
	_, now, _ := aid.Step(t, &b.x, api.OpAdd, d, 0)
	return now
}

// words: a pipe by the chapter's words: its steps once more, on cells of its own, by threads of which one moves at a time, or by one alone who is free, and does not sleep.
type words struct {
	in, out    atomic.Int64
	bell       *wordedBell
	turn, slot []atomic.Int64
}

// worded: by the chapter's words.
var worded = kind{func(v int64) bell {
	b := &wordedBell{}
	b.x.Store(v)
	return b
}, func(n int, b bell) (thing, bell) {
	own, is := b.(*wordedBell)
	if !is {
		own = &wordedBell{}
	}
	p := &words{bell: own, turn: make([]atomic.Int64, n), slot: make([]atomic.Int64, n)}
	for i := range n {
		p.turn[i].Store(int64(i))
	}
	return p, own
}}

func (p *words) TrySend(t *gate.Thread, v int64) int8 {
	n := int64(len(p.turn))
	for {
		x := aid.Load(t, &p.in) // 1
		if x%2 != 0 {
			return 3
		}
		q := x / 2
		d := aid.Load(t, &p.turn[q%n]) - q // 2
		if d < 0 {                         // 3
			return 2
		}
		if d > 0 {
			continue
		}
		if _, _, held := aid.Step(t, &p.in, api.OpCas, x, x+2); !held {
			continue
		}
		aid.Step(t, &p.slot[q%n], api.OpStore, v, 0)   // 4
		aid.Step(t, &p.turn[q%n], api.OpStore, q+1, 0) // 5
		p.bell.Add(t, 1)                               // 6
		return 1
	}
}

func (p *words) TryRecv(t *gate.Thread) (int64, int8) {
	n := int64(len(p.turn))
	for {
		q := aid.Load(t, &p.out)                 // 1
		d := aid.Load(t, &p.turn[q%n]) - (q + 1) // 2
		if d > 0 {                               // 3
			continue
		}
		if d < 0 {
			if aid.Load(t, &p.in) == 2*q+1 {
				return 0, 3
			}
			return 0, 2
		}
		if _, _, held := aid.Step(t, &p.out, api.OpCas, q, q+1); !held {
			continue
		}
		v := aid.Load(t, &p.slot[q%n])                 // 4
		aid.Step(t, &p.turn[q%n], api.OpStore, q+n, 0) // 5
		p.bell.Add(t, 1)                               // 6
		return v, 1
	}
}

func (p *words) Send(t *gate.Thread, v int64) api.Errno {
	for {
		b := p.bell.Load(t) // 1
		how := p.TrySend(t, v)
		if how == 1 { // 2
			return api.OK
		}
		if how == 3 {
			return api.ErrClosed
		}
		aid.Step(t, &p.bell.x, api.OpPark, b, 0) // 3
	}
}

func (p *words) Recv(t *gate.Thread) (int64, api.Errno) {
	for {
		b := p.bell.Load(t) // 1
		v, how := p.TryRecv(t)
		if how == 1 { // 2
			return v, api.OK
		}
		if how == 3 {
			return 0, api.ErrClosed
		}
		aid.Step(t, &p.bell.x, api.OpPark, b, 0) // 3
	}
}

func (p *words) Close(t *gate.Thread) api.Errno {
	for {
		x := aid.Load(t, &p.in) // 1
		if x%2 != 0 {
			return api.ErrClosed
		}
		if _, _, held := aid.Step(t, &p.in, api.OpCas, x, x+1); held { // 2
			p.bell.Add(t, 1) // 3
			return api.OK
		}
	}
}
