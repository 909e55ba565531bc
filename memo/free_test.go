package memo_test

import (
	"math/rand"
	"runtime"
	"slices"
	"sync/atomic"
	"testing"
	"testing/synctest"

	"treadle/aid"
	"treadle/api"
	"treadle/fault"
	"treadle/gate"
	"treadle/memo"
)

// (What plain memory is handed on the race detector sees besides.)

const hands, meetings = 8, 20000

// sleeper: a Get in a goroutine of its own, and what it was told.
type sleeper struct {
	answered, built bool
	got             aid.Answer
}

// begun: so many who ask for a key; they have been answered, or sleep.
func begun(th *gate.Thread, m *memo.Memo, key int64, n int, build function) (l []*sleeper) {
	for range n {
		s := &sleeper{}
		l = append(l, s)
		go func() {
			v, e, built := m.Get(th, key, build)
			*s = sleeper{true, built, aid.Told(v, e)}
		}()
	}
	synctest.Wait()
	return l
}

// TestOthersSleep until the building has ended, however it does, by whatever thread that does not live; who asks later does not, nor who asks for another key. (In a bubble of synctest Wait answers when all others sleep: who goes round and looks does not; a bubble whose goroutines all sleep for good fails.)
func TestOthersSleep(t *testing.T) {
	defer inTime()()
	for _, th := range aid.FreeThreads() {
		for _, is := range []aid.Answer{aid.Told(5, nil), aid.Told(0, nil), aid.Told(0, &fault.Late{Due: 4}), aid.Told(0, fault.Of("x"))} {
			synctest.Test(t, func(t *testing.T) {
				m, goes := memo.New(2), make(chan int)
				never := func(*gate.Thread) (int64, error) { t.Error("P15.2: it is built again"); return 77, nil }
				first := begun(th, m, 1, 1, func(*gate.Thread) (int64, error) {
					<-goes
					if is.E != nil && fault.Class(is.E) == api.ErrPanic {
						panic("x")
					}
					return is.V, is.E
				})
				others := begun(th, m, 1, 7, never)
				another := begun(th, m, 6, 1, answers(8, nil))[0]
				if full := begun(th, m, 9, 1, never)[0]; !another.answered || another.got != aid.Told(8, nil) || full.got != aid.Told(0, api.ErrFull) {
					t.Errorf("P15.2: beside a building another key is told %v, one too many %v", another, full)
				}
				if l := m.Keys(th); !slices.Equal(l, []int64{6, 1}) {
					t.Errorf("P15.3: beside a building: %v", l)
				}
				if slices.ContainsFunc(append(others, first...), func(s *sleeper) bool { return s.answered }) {
					t.Error("what follows: somebody is told ahead of the end")
				}
				close(goes)
				for i, s := range slices.Concat(first, others, begun(th, m, 1, 3, never)) {
					if !s.answered || s.built != (i == 0) || s.got.String() != is.String() || s.got != first[0].got {
						t.Errorf("what follows: the Get %d: %+v, not %v", i, s, is)
					}
				}
			})
		}
	}
}

// point: a memo at which hands meet, and what comes of its keys, which are numbered.
type point struct {
	i     int // the number of the meeting
	m     *memo.Memo
	keys  []int64
	calls []atomic.Int64 // how often a build is called
	laid  []int          // what the build lays at its end
	got   []heard
}

// heard: what a hand was told at a meeting, and what is wrong with it.
type heard struct {
	gets   []got
	faults []string
}

func (a *heard) fault(is bool, what string) {
	if is {
		a.faults = append(a.faults, what)
	}
}

// got: what a Get of the key with that number was told.
type got struct {
	key   int
	is    aid.Answer
	built bool
}

// full: whether it found no room.
func (g got) full() bool { return g.is == aid.Told(0, api.ErrFull) }

func newPoint(i, hands, size int, keys []int64) *point {
	return &point{i: i, m: memo.New(size), keys: keys, calls: make([]atomic.Int64, len(keys)), laid: make([]int, len(keys)), got: make([]heard, hands)}
}

// build: by a hand, of the key with this number. What it comes to tells the hand.
func (m *point) build(key, hand int, within func()) function {
	return func(u *gate.Thread) (int64, error) {
		m.calls[key].Add(1)
		if within(); (m.i+key)%7 == 0 {
			runtime.Gosched()
		}
		m.laid[key] = m.i + 1
		n := int64(hand*100 + key)
		switch (m.i + key) % 5 {
		case 3:
			return 9, &fault.Failed{Code: n}
		case 4:
			panic(n)
		}
		return n, nil
	}
}

// by: the hand that built what comes to that.
func (m *point) by(g got) int {
	n := g.is.V
	switch e := g.is.E.(type) {
	case nil:
		if (m.i+g.key)%5 > 2 {
			return -1
		}
	case *fault.Failed:
		if n = e.Code; (m.i+g.key)%5 != 3 || g.is.V != 0 {
			return -1
		}
	case *fault.Panicked:
		if n = e.Value.(int64); (m.i+g.key)%5 != 4 || g.is.V != 0 {
			return -1
		}
	}
	if n%100 != int64(g.key) {
		return -1
	}
	return int(n / 100)
}

// gets: a hand asks for a key. Whoever is told finds what the build laid.
func (m *point) gets(a *heard, hand, key int, within func()) {
	v, e, built := m.m.Get(nil, m.keys[key], m.build(key, hand, within))
	g := got{key, aid.Told(v, e), built}
	a.gets = append(a.gets, g)
	if g.full() {
		a.fault(built, "it is told that it built what it finds no room for")
		return
	}
	by := m.by(g)
	a.fault(m.laid[key] != m.i+1, "it is told ahead of the end of the building")
	a.fault(by < 0 || built && by != hand, "it is told what its building does not come to")
}

// looks: a hand looks at the keys, among which are those that it was told of, in their order.
func (m *point) looks(a *heard, ahead []int64) []int64 {
	l := m.m.Keys(nil)
	for _, g := range a.gets {
		a.fault(slices.Contains(l, m.keys[g.key]) == g.full(), "a key that it was told of is not there, or one that found no room is")
	}
	for _, k := range ahead {
		a.fault(!slices.Contains(l, k), "a key is there no longer")
	}
	for _, k := range l {
		a.fault(!slices.Contains(m.keys, k), "a key is there that nobody asked for")
	}
	return l
}

// nothing is what a build does besides.
func nothing() {}

// faults: what is wrong with what the hands were told: each key is to be built once, if anybody is told; all are to be told the same; who finds no room is to find others there.
func (m *point) faults() []string {
	l := m.m.Keys(nil)
	all, built, first := heard{}, make([]int, len(m.keys)), make([]*got, len(m.keys))
	for _, a := range m.got {
		all.faults = append(all.faults, a.faults...)
		for _, g := range a.gets {
			if g.full() {
				all.fault(slices.Contains(l, m.keys[g.key]) || m.calls[g.key].Load() != 0, "somebody finds no room for a key that is there")
				continue
			}
			if first[g.key] == nil {
				first[g.key] = &g
			}
			all.fault(g.is != first[g.key].is, "two are told unlike things")
			built[g.key] += aid.Digit(g.built)
		}
	}
	for key, g := range first {
		n := m.calls[key].Load()
		all.fault(n > 1 || int(n) != built[key], "two are called, or others are told so")
		all.fault((g != nil) != slices.Contains(l, m.keys[key]) || (g != nil) != (n == 1), "somebody is told of a key that is not there, or not built")
		if g == nil {
			continue
		}
		v, e, again := m.m.Get(nil, m.keys[key], m.build(key, hands, nothing))
		all.fault(aid.Told(v, e) != g.is || again, "who comes later is told something else")
	}
	return all.faults
}

// meet: so many hands meet, each time at another memo of that size; they ask for these keys.
func meet(t *testing.T, hands, meetings, size int, keys []int64, f func(m *point, hand int, a *heard)) []*point {
	t.Helper()
	all := make([]*point, meetings)
	for i := range all {
		all[i] = newPoint(i, hands, size, keys)
	}
	defer inTime()()
	aid.Together(hands, meetings, func(h, i int) { f(all[i], h, &all[i].got[h]) })
	for i, m := range all {
		if l := m.faults(); len(l) != 0 {
			t.Fatalf("what follows: at the meeting %d: %q; the keys are %v", i, l, m.m.Keys(nil))
		}
	}
	return all
}

// refusals: how many Gets found no room.
func refusals(all []*point) (n int) {
	for _, m := range all {
		for _, a := range m.got {
			for _, g := range a.gets {
				n += aid.Digit(g.full())
			}
		}
	}
	return n
}

// TestGetsMeet: of those who ask for one key together one builds it, and all are told.
func TestGetsMeet(t *testing.T) {
	for _, n := range []int{2, 2, 3, hands} { // few may go at one time where the machine has few processors
		if all := meet(t, n, meetings, 1, []int64{5}, func(m *point, h int, a *heard) {
			m.gets(a, h, 0, nothing)
			m.gets(a, h, 0, nothing)
		}); refusals(all) != 0 {
			t.Errorf("P15.2: %d find no room", refusals(all))
		}
	}
}

// TestKeysOfOnePlaceMeet: keys that come to the same place together get places of their own.
func TestKeysOfOnePlaceMeet(t *testing.T) {
	for _, n := range []int{2, 3, hands} {
		if all := meet(t, n, meetings/2, 4, []int64{1, 6, 9, 14}, func(m *point, h int, a *heard) {
			m.gets(a, h, (h+m.i)%4, nothing)
			m.gets(a, h, (h+m.i/4)%4, nothing)
		}); refusals(all) != 0 {
			t.Errorf("P15.2: %d find no room", refusals(all))
		}
	}
}

// TestLastPlacesMeet: more keys come together than there are places; who finds none has built nothing.
func TestLastPlacesMeet(t *testing.T) {
	for _, n := range []int{2, 3, hands} {
		all := meet(t, n, meetings/2, 2, []int64{0, 1, 2, 3, 4}, func(m *point, h int, a *heard) {
			for k := range 3 {
				m.gets(a, h, (h+m.i+k)%5, nothing)
			}
			m.gets(a, h, (h+m.i)%5, nothing)
		})
		for i, m := range all {
			if l := m.m.Keys(nil); len(l) != 2 {
				t.Fatalf("P15.2, P15.3: at the meeting %d the keys are %v", i, l)
			}
		}
		if refusals(all) < meetings/4 {
			t.Errorf("the hands are no good: %d find no room", refusals(all))
		}
	}
}

// TestLooksMeetGets: whoever looks at the keys finds those that he was told of, and those that he has seen.
func TestLooksMeetGets(t *testing.T) {
	for _, n := range []int{2, 3, hands} {
		meet(t, n, meetings/2, 4, []int64{1, 6, 3, 8}, func(m *point, h int, a *heard) {
			seen := m.looks(a, nil)
			for k := range 2 {
				m.gets(a, h, (h+m.i+k)%4, nothing)
				seen = m.looks(a, seen)
			}
		})
	}
}

// TestBuildsAskForOthers: builds ask for keys that stand behind their own in the list, which others ask for meanwhile.
func TestBuildsAskForOthers(t *testing.T) {
	for _, n := range []int{2, 3, hands} {
		meet(t, n, meetings/2, 4, []int64{9, 1, 6, 3}, func(m *point, h int, a *heard) {
			var asks func(key int) func()
			asks = func(key int) func() {
				if key == 3 || (h+m.i)%3 == 0 {
					return nothing
				}
				return func() { m.gets(a, h, key+1, asks(key+1)) }
			}
			at := (h + m.i) % 4
			m.gets(a, h, at, asks(at))
			m.gets(a, h, 3-at, asks(3-at))
		})
	}
}

// allMeet: all of that.
func allMeet(m *point, h int, a *heard) {
	seen := []int64(nil)
	for k := range 3 {
		at := (h*(k+1) + m.i) % 6
		m.gets(a, h, at, func() {
			if at < 5 && (h+k)%2 == 0 {
				m.gets(a, h, at+1, nothing)
			}
		})
		seen = m.looks(a, seen)
	}
}

// six: keys of a memo that has four places.
var six = []int64{0, 6, 9, 1, 5, 1 << 62}

func TestAllMeet(t *testing.T) { meet(t, hands, meetings, 4, six, allMeet) }

// TestStoppedByTheMachine: the same, where there are more hands than the machine lets go at one time, so that it stops them in the midst of their calls for a while.
func TestStoppedByTheMachine(t *testing.T) {
	defer runtime.GOMAXPROCS(runtime.GOMAXPROCS(4 * hands))
	meet(t, 3*hands, meetings/2, 4, six, allMeet)
}

// TestNets: hands that ask for keys as they like, of a memo that has places for some of them; their builds ask for greater ones.
func TestNets(t *testing.T) {
	keys := make([]int64, 90)
	for i := range keys {
		keys[i] = int64(i)
	}
	full := 0
	for _, size := range []int{16, 64, 128} {
		full += refusals(meet(t, hands, 200, size, keys, func(m *point, h int, a *heard) {
			r := rand.New(rand.NewSource(int64(m.i*hands + h)))
			var asks func(above int) func()
			asks = func(above int) func() {
				return func() {
					for range r.Intn(2) {
						if at := above + 1 + r.Intn(20); at < len(keys) {
							m.gets(a, h, at, asks(at))
						}
					}
				}
			}
			for range 40 {
				at := r.Intn(len(keys))
				m.gets(a, h, at, asks(at))
			}
			m.looks(a, nil)
		}))
	}
	if full < 1000 {
		t.Errorf("the hands are no good: %d find no room", full)
	}
}
