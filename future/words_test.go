package future_test

import (
	"slices"
	"sync/atomic"

	"treadle/aid"
	"treadle/api"
	"treadle/fault"
	"treadle/gate"
)

// The chapter's steps once more, and those of chapter 9, on cells of their own: by threads of which one moves at a time, or by one alone who is free.

const (
	stateCell = iota
	lastCell
	headCell
)

// words: a future by the chapter's words.
type words struct {
	cells  [3]atomic.Int64
	places [65]placed
	v      int64
	e      error
}

// placed: what belongs to a place: a function, and the place that was put on ahead of it.
type placed struct {
	f     function
	ahead int64
}

// pledged: a promise by the chapter's words.
type pledged struct {
	of     *words
	filled bool
}

func newWords() *words { return &words{} }

// step: an access: what was, what is, and, of a Cas, whether it is done.
func (x *words) step(t *gate.Thread, cell int, op int8, arg, next int64) (was, is int64, ok bool) {
	return aid.Step(t, &x.cells[cell], op, arg, next)
}

func (x *words) load(t *gate.Thread, cell int) int64 { return aid.Load(t, &x.cells[cell]) }

func (x *words) Claim(t *gate.Thread) *pledged {
	if x == nil {
		return nil
	}
	if _, _, ok := x.step(t, stateCell, api.OpCas, 0, 1); !ok {
		return nil
	}
	return &pledged{of: x}
}

func (p *pledged) Fill(t *gate.Thread, v int64, err error) bool {
	if p == nil || p.filled {
		return false
	}
	x, end := p.of, int64(2)
	x.v, x.e = v, err
	if err != nil {
		x.v, end = 0, 3
	}
	x.step(t, stateCell, api.OpStore, end, 0)
	p.filled = true
	h, _, _ := x.step(t, headCell, api.OpSwap, -1, 0)
	var row []function
	for h != 0 {
		row = append(row, x.places[h].f)
		h = x.places[h].ahead
	}
	for _, f := range slices.Backward(row) {
		f(t, x.v, x.e)
	}
	return true
}

func (x *words) Complete(t *gate.Thread, v int64, err error) bool {
	p := x.Claim(t)
	return p != nil && p.Fill(t, v, err)
}

func (x *words) Then(t *gate.Thread, f func(t *gate.Thread, v int64, err error)) api.Errno {
	if x == nil {
		return api.ErrNil
	}
	if f == nil {
		return api.ErrArg
	}
	e := x.adds(t, f)
	if e == api.ErrClosed {
		f(t, x.v, x.e)
		return api.OK
	}
	return e
}

// adds: chapter 9's steps of an Add.
func (x *words) adds(t *gate.Thread, f function) api.Errno {
	h := x.load(t, headCell)
	if h == -1 {
		return api.ErrClosed
	}
	_, k, _ := x.step(t, lastCell, api.OpAdd, 1, 0)
	if k > 64 {
		return api.ErrFull
	}
	for h != -1 {
		x.places[k] = placed{f, h}
		if _, _, ok := x.step(t, headCell, api.OpCas, h, k); ok {
			return api.OK
		}
		h = x.load(t, headCell)
	}
	return api.ErrClosed
}

func (x *words) Await(t *gate.Thread) (int64, error) {
	if x == nil {
		return 0, api.ErrNil
	}
	s := x.load(t, stateCell)
	for s < 2 {
		s, _, _ = x.step(t, stateCell, api.OpPark, s, 0)
	}
	return x.v, x.e
}

func (x *words) Peek(t *gate.Thread) (int64, error, bool) {
	if x == nil || x.load(t, stateCell) < 2 {
		return 0, nil, false
	}
	return x.v, x.e, true
}

func (x *words) Map(t *gate.Thread, f func(v int64) (int64, error)) (*words, api.Errno) {
	if x == nil {
		return nil, api.ErrNil
	}
	if f == nil {
		return nil, api.ErrArg
	}
	g := newWords()
	e := x.Then(t, func(t *gate.Thread, v int64, err error) {
		if err == nil {
			v, err = caught(f, v)
		}
		g.Complete(t, v, err)
	})
	if e != api.OK {
		return nil, e
	}
	return g, api.OK
}

// caught: what f answers of v, or panics with.
func caught(f change, v int64) (w int64, e error) {
	defer func() {
		if x := recover(); gate.Is(x) {
			panic(x)
		} else if x != nil {
			w, e = 0, &fault.Panicked{Value: x}
		}
	}()
	return f(v)
}
