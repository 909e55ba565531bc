package memo_test

import (
	"math"
	"math/big"
	"sync/atomic"

	"treadle/aid"
	"treadle/api"
	"treadle/fault"
	"treadle/gate"
)

// The chapter's steps once more, and those of chapter 14, on cells of their own: by threads of which one moves at a time, or by one alone who is free.

// words: a memo by the chapter's words.
type words struct{ places []worded }

// worded: a place: its key, and the state, the list's head, and what is plain of its future. (Nobody puts anything on that list.)
type worded struct {
	key, state, head atomic.Int64
	v                int64
	e                error
}

func newWords(size int) kind { return &words{make([]worded, size)} }

// first: the chapter's place of a key, by numbers that do not go round.
func first(key int64, size int) int {
	z := new(big.Int).Mul(big.NewInt(key), new(big.Int).SetUint64(11400714819323198485))
	z.Mod(z, new(big.Int).Lsh(big.NewInt(1), 64))
	share := new(big.Int).Div(new(big.Int).Lsh(big.NewInt(1), 64), big.NewInt(int64(size))) // so many follow one another that have the highest bits alike
	return int(z.Div(z, share).Int64())
}

func (x *words) Get(t *gate.Thread, key int64, build func(t *gate.Thread) (int64, error)) (int64, error, bool) {
	if key < 0 || key == math.MaxInt64 || build == nil {
		return 0, api.ErrArg, false
	}
	n := len(x.places)
	for i, from := 0, first(key, n); i < n; i++ {
		p := &x.places[(from+i)%n]
		c := aid.Load(t, &p.key)
		for c == 0 {
			if _, _, ok := aid.Step(t, &p.key, api.OpCas, 0, key+1); ok {
				return p.found(t, key, build)
			}
			c = aid.Load(t, &p.key)
		}
		if c == key+1 {
			return p.found(t, key, build)
		}
	}
	return 0, api.ErrFull, false
}

// found: what is done at the key's place.
func (p *worded) found(t *gate.Thread, key int64, build function) (int64, error, bool) {
	if _, _, ok := aid.Step(t, &p.state, api.OpCas, 0, 1); !ok {
		s := aid.Load(t, &p.state)
		for s < 2 {
			s, _, _ = aid.Step(t, &p.state, api.OpPark, s, 0)
		}
		return p.v, p.e, false
	}
	t.Mark(key, 5)
	p.v, p.e = caught(t, build)
	t.Mark(key, 6)
	end := int64(2)
	if p.e != nil {
		end = 3
	}
	aid.Step(t, &p.state, api.OpStore, end, 0)
	aid.Step(t, &p.head, api.OpSwap, -1, 0)
	return p.v, p.e, true
}

// caught: what the build answers, or panics with.
func caught(t *gate.Thread, build function) (v int64, e error) {
	defer func() {
		if x := recover(); gate.Is(x) {
			panic(x)
		} else if x != nil {
			v, e = 0, &fault.Panicked{Value: x}
		}
	}()
	if v, e = build(t); e != nil {
		return 0, e
	}
	return v, nil
}

func (x *words) Keys(t *gate.Thread) (l []int64) {
	for i := range x.places {
		if c := aid.Load(t, &x.places[i].key); c != 0 {
			l = append(l, c-1)
		}
	}
	return l
}
