package aid

import (
	"math"
	"slices"
	"sync/atomic"
)

// Passage is what goes from hands that put to hands that take, beside one another. Each putter puts so many values, from 1 on, with his number times 2^32. Who is refused tries again, at once for some times, and then whenever another hand has done something; where none is left that may, he gives up.
type Passage struct {
	Putters, Takers, Each int
	Put                   func(v int64) bool   // whether it does
	Take                  func() (int64, bool) // a value, if there is one
	Lane                  func(v int64) int    // values of one putter and one lane are to come to each taker in the putter's order
}

// Wrong goes through it: how often something goes wrong: a value is not taken just once, comes ahead of what its putter did ahead of putting it, or behind a later one of its lane.
func (p *Passage) Wrong() int {
	got, early := p.goes()
	wrong := early + p.disorder(got)
	seen := slices.Concat(got...)
	slices.Sort(seen)
	for i := range max(len(seen), p.Putters*p.Each) {
		if i >= min(len(seen), p.Putters*p.Each) || seen[i] != int64(i/p.Each)<<32+int64(i%p.Each+1) {
			wrong++
		}
	}
	return wrong
}

// goes: what each taker got, in his order; and how often a value came early.
func (p *Passage) goes() (got [][]int64, early int) {
	got = make([][]int64, p.Takers)
	plain := make([][]int, p.Putters) // what each putter does ahead of each value: the race detector sees it, too
	for h := range plain {
		plain[h] = make([]int, p.Each)
	}
	var wrong atomic.Int64
	y := newYard(p.Putters + p.Takers)
	puts := func(h int) {
		for i := range p.Each {
			plain[h][i] = 1
			if !y.does(putters, func() bool { return p.Put(int64(h)<<32 + int64(i+1)) }) {
				return // what was put is lost, or nobody takes it
			}
		}
	}
	takes := func(l *[]int64) bool {
		v, ok := p.Take()
		if !ok {
			return false
		}
		*l = append(*l, v)
		if by, i := p.of(v); i < 0 || plain[by][i] != 1 {
			wrong.Add(1)
		}
		return true
	}
	Beside(p.Putters+p.Takers, func(h int) {
		defer y.leaves()
		if h < p.Putters {
			puts(h)
			return
		}
		l := &got[h-p.Putters]
		for len(*l) < p.Putters*p.Each && y.does(takers, func() bool { return takes(l) }) {
		}
	})
	return got, int(wrong.Load())
}

// of: who puts a value, and which of his it is, from 0 on; -1 of one that nobody does.
func (p *Passage) of(v int64) (by, i int) {
	by, i = int(v>>32), int(v&math.MaxUint32)-1
	if by < 0 || by >= p.Putters || i >= p.Each {
		return 0, -1
	}
	return by, i
}

// disorder: how often a value came behind a later one of its putter and lane.
func (p *Passage) disorder(got [][]int64) (wrong int) {
	type lane struct{ by, n int }
	for _, l := range got {
		last := map[lane]int64{}
		for _, v := range l {
			by, i := p.of(v)
			if i < 0 {
				continue
			}
			at := lane{by, p.Lane(v)}
			if last[at] >= v {
				wrong++
			}
			last[at] = v
		}
	}
	return wrong
}
