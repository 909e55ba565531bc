package prio_test

import (
	"math/rand"
	"runtime"
	"slices"
	"sync/atomic"
	"testing"
	"time"

	"treadle/aid"
	"treadle/api"
)

// most: of those that are put later so many at most go ahead of what is put on a level, where one alone puts and one alone takes.
func (m size) most(level int) int { return 64 * (m.levels - 1 - level) }

// mostBeside: the same, if the taker may be in the midst of a Take as it is put: which has passed by the level, and goes on to a lower one.
func (m size) mostBeside(level int) int {
	if level == 0 {
		return m.most(level)
	}
	return max(1, m.most(level))
}

// passed: how many of those that were put later are taken ahead of a value.
type passed struct {
	byWorth int // by Takes that began when it was there
	byLook  int // by a Take in its midst then, which may have passed by its level, and gone on to a lower one
}

// waits: who passed each value that was put, along a record in which the first thread alone puts, and the second one alone takes; and what is found amiss of that.
func (w *world) waits() (l []passed, faults []string) {
	var in, out []*did
	for _, d := range w.did {
		if d.call.op == put && d.claimed {
			in = append(in, d)
		}
		if d.call.op == take && d.claimed {
			out = append(out, d)
		}
	}
	place := map[int64]int{} // of each value among those that were put
	for k, d := range in {
		place[d.call.v] = k
	}
	for k, x := range in {
		var by passed
		for _, d := range out {
			if d.level == x.level && d.position == x.position {
				break
			}
			j, is := place[d.answer.v]
			switch {
			case !is || j < k:
				continue
			case d.First > x.Last:
				by.byWorth++
				if i := int64(d.level - x.level); i <= 0 || d.ticket-x.ticket > 64*i {
					faults = append(faults, "what is not worth more goes ahead")
				}
			default:
				by.byLook++
			}
		}
		if by.byWorth > w.from.of.most(x.level) || by.byWorth+by.byLook > w.from.of.mostBeside(x.level) || by.byLook > 1 {
			faults = append(faults, "what was put waits too long")
		}
		l = append(l, by)
	}
	return l, faults
}

// TestNoStarving: one puts, and one takes, under random picks: what is there waits for those that were there, and for so many others.
func TestNoStarving(t *testing.T) {
	met := map[string]int{}
	for seed := range int64(300) {
		r := rand.New(rand.NewSource(seed))
		m := size{1 + r.Intn(4), 2 << r.Intn(4)}
		calls := make([][]call, 2)
		for v := range int64(150 + r.Intn(150)) {
			level := m.levels - 1
			if r.Intn(12) == 0 {
				level = r.Intn(m.levels)
			}
			calls[0] = append(calls[0], puts(level, v))
		}
		calls[1] = slices.Repeat([]call{takes}, 100+r.Intn(200))
		w := m.behind().world(calls)
		picks := aid.Mixed(seed, r.Intn, 3000, []int{1, 3, 9, 30, 100, 400})
		report := w.run(t, picks, api.MaxTurns)
		l, faults := w.waits()
		for _, f := range faults {
			t.Errorf("W5: %s", f)
		}
		if t.Failed() || report.End != api.Over {
			t.Fatalf("seed %d: of %v: end %d", seed, m, report.End)
		}
		for _, by := range l {
			met["long"] += aid.Digit(by.byWorth > 30)
			met["by worth"] += aid.Digit(by.byWorth > 0)
			met["by look"] += by.byLook
		}
	}
	if met["long"] < 200 || met["by worth"] < 1000 || met["by look"] < 20 {
		t.Errorf("the threads are no good: %v", met)
	}
}

// TestWorstOfAll: what waits on each level while others are put on the highest one as fast as they are taken: it comes ahead of that of the ticket that is 64 times the levels between behind it, whatever was there ahead of it.
func TestWorstOfAll(t *testing.T) {
	for levels := 1; levels <= 8; levels++ {
		for _, room := range []int{2, 8, 64} {
			m := size{levels, room}
			for level := range levels {
				for ahead := range room {
					p := m.prio()
					for i := range ahead {
						do(p, nil, puts(level, int64(-2-i)))
					}
					if do(p, nil, puts(level, -1)); level < levels-1 {
						for range room - 1 {
							do(p, nil, puts(levels-1, 8))
						}
					}
					others, top := 0, 0
					for ; ; others++ {
						if level < levels-1 {
							do(p, nil, puts(levels-1, 8))
						}
						a := do(p, nil, takes)
						if a.v == -1 || others > 2*ahead+600 {
							break
						}
						top += aid.Digit(a.v == 8)
					}
					if want := max(0, m.most(level)-1); others-top != ahead || top != want {
						t.Fatalf("W5: of %v: behind %d on the level %d: behind %d of those and %d others, not %d", m, ahead, level, others-top, top, want)
					}
				}
			}
		}
	}
}

// passage: what one goroutine puts, and another one takes.
type passage struct {
	of    size
	on    []int    // of each value that is put its level; the values, and the tickets less one, are the places in this list
	got   []answer // what is taken
	ahead []int    // of each Take that took how many Puts were through as it began
	done  atomic.Int64
}

// goes puts so many values, one of so many on whatever level, and the rest on the highest one; and takes them.
func (x *passage) goes(each, seldom int) {
	p := x.of.prio()
	var late atomic.Bool // where something is lost they would go on for ever
	defer time.AfterFunc(30*time.Second, func() { late.Store(true) }).Stop()
	puts := func() {
		r := rand.New(rand.NewSource(int64(seldom)))
		for v := int64(0); v < int64(each) && !late.Load(); v++ {
			level := x.of.levels - 1
			if r.Intn(seldom) == 0 {
				level = r.Intn(x.of.levels)
			}
			x.on = append(x.on, level)
			for p.Put(nil, level, v) != api.OK && !late.Load() {
				runtime.Gosched()
			}
			x.done.Add(1)
		}
	}
	aid.Beside(2, func(h int) {
		if h == put {
			puts()
			return
		}
		for len(x.got) < each && !late.Load() {
			ahead := int(x.done.Load())
			if a := do(p, nil, takes); a.ok {
				x.got, x.ahead = append(x.got, a), append(x.ahead, ahead)
			} else {
				runtime.Gosched()
			}
		}
	})
}

// worth: of a value, by its level and ticket.
func (x *passage) worth(v int) int { return 64*x.on[v] - (v + 1) }

// wrong: how often something else is taken than what is worth most of what was there as the Take began, but what came meanwhile; or one waits too long.
func (x *passage) wrong() (n int) {
	firsts := make([]int, x.of.levels) // of each level what is taken next there
	next := func(level, from int) int {
		for from < len(x.on) && x.on[from] != level {
			from++
		}
		return from
	}
	for level := range firsts {
		firsts[level] = next(level, 0)
	}
	for k, a := range x.got {
		v := int(a.v)
		if v != firsts[a.level] || v >= len(x.on) {
			return n + 1
		}
		for _, other := range firsts {
			if other < x.ahead[k] && (x.worth(other) > x.worth(v) || x.worth(other) == x.worth(v) && other < v) {
				n++
			}
		}
		n += aid.Digit(k-v > x.of.mostBeside(a.level))
		firsts[a.level] = next(a.level, v+1)
	}
	return n
}

// TestNoStarvingFree: the same of goroutines.
func TestNoStarvingFree(t *testing.T) {
	const each = 100000
	for _, m := range []size{{1, 2}, {2, 2}, {2, 64}, {3, 4}, {8, 2}, {8, 16}, {4, 1024}} {
		for _, seldom := range []int{1, 8, 60} {
			x := &passage{of: m}
			if x.goes(each, seldom); len(x.got) != each || x.wrong() != 0 {
				t.Fatalf("W5: of %v, seldom %d: %d of %d are taken, %d times it is wrong", m, seldom, len(x.got), each, x.wrong())
			}
		}
	}
}
