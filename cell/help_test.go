package cell_test

import (
	"math"
	"math/rand"

	"treadle/aid"
	"treadle/api"
	"treadle/cell"
	"treadle/gate"
)

type body = aid.Body

// call: one call of one of several cells. Load takes neither a nor b, Cas both, the others a.
type call struct {
	op   int8
	cell int
	a, b int64
}

// answer: what a call answered; ok: of Cas alone. Store answers 0.
type answer struct {
	n  int64
	ok bool
}

var ops = []int8{api.OpLoad, api.OpStore, api.OpCas, api.OpAdd, api.OpSwap, api.OpPark}

// do does the call by its thread, or free.
func (c call) do(t *gate.Thread, x *cell.Cell) answer {
	switch c.op {
	case api.OpLoad:
		return answer{n: x.Load(t)}
	case api.OpStore:
		x.Store(t, c.a)
	case api.OpCas:
		return answer{ok: x.Cas(t, c.a, c.b)}
	case api.OpAdd:
		return answer{n: x.Add(t, c.a)}
	case api.OpSwap:
		return answer{n: x.Swap(t, c.a)}
	case api.OpPark:
		return answer{n: x.Park(t, c.a)}
	}
	return answer{}
}

// steps: along a record the call is one access.
func (c call) steps(s *aid.Steps) answer {
	switch c.op {
	case api.OpLoad:
		return answer{n: s.Load(c.cell)}
	case api.OpStore:
		s.Store(c.cell, c.a)
	case api.OpCas:
		return answer{ok: s.Cas(c.cell, c.a, c.b)}
	case api.OpAdd:
		return answer{n: s.Add(c.cell, c.a)}
	case api.OpSwap:
		return answer{n: s.Swap(c.cell, c.a)}
	case api.OpPark:
		return answer{n: s.Park(c.cell, c.a)}
	}
	return answer{}
}

// plain: the chapter's words once more: what the cell holds behind the call, and what that answers. (Of a Park that is done.)
func (c call) plain(was int64) (int64, answer) {
	switch c.op {
	case api.OpStore:
		return c.a, answer{}
	case api.OpCas:
		if was != c.a {
			return was, answer{}
		}
		return c.b, answer{ok: true}
	case api.OpAdd:
		return was + c.a, answer{n: was + c.a}
	case api.OpSwap:
		return c.a, answer{n: was}
	}
	return was, answer{n: was}
}

// entry: what a log says of the call at its turn.
func (c call) entry(thread, number int, was int64) api.Access {
	e := api.Access{Thread: thread, Op: c.op, Cell: number, Was: was}
	now, a := c.plain(was)
	e.Now, e.Ok = now, a.ok
	if c.op != api.OpLoad {
		e.Arg = c.a
	}
	if c.op == api.OpCas {
		e.New = c.b
	}
	return e
}

// edges: values of which some are at the ends, so that sums go round, and some are near one another, so that a Cas finds its own.
var edges = []int64{0, 1, 2, -1, 7, math.MaxInt64, math.MinInt64, math.MaxInt64 - 1}

func someValue(r *rand.Rand, few int) int64 { return edges[r.Intn(few)] }

// someCall: the values are of the first few of the edges.
func someCall(r *rand.Rand, cells, few int) call {
	return call{op: ops[r.Intn(len(ops))], cell: r.Intn(cells), a: someValue(r, few), b: someValue(r, few)}
}

func someCells(r *rand.Rand, few int) ([]*cell.Cell, []int64) {
	var l []*cell.Cell
	var held []int64
	for range 1 + r.Intn(3) {
		v := someValue(r, few)
		l, held = append(l, cell.New(v)), append(held, v)
	}
	return l, held
}
