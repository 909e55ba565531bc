package stack_test

import (
	"math/rand"
	"runtime"
	"slices"
	"sync/atomic"
	"testing"
	"time"

	"treadle/aid"
	"treadle/api"
	"treadle/stack"
)

// (What plain memory is handed on the race detector sees besides.)

const hands, meetings = 8, 50000

// crowd: hands that each push so many values, unlike all others', and pop meanwhile.
type crowd struct {
	s       *stack.Stack
	n       int64
	plain   []int        // of each value: 1, laid ahead of its Push
	pushed  atomic.Int64 // how many Pushes are through
	pops    atomic.Int64 // how many Pops began, but those that got nothing
	refused atomic.Int64 // how many of both were
	amiss   atomic.Int64 // how often a value came ahead of its Push, or more were there than there are nodes
	late    atomic.Bool  // where something goes wrong they might go on for ever
	got     [][]int64    // by each hand
}

// passes: such hands. burst says how many values a hand pushes, and how often it pops behind that, again and again.
func passes(of size, many, each int, burst func(r *rand.Rand) (pushes, pops int)) *crowd {
	x := &crowd{s: of.stack(), n: int64(of.n), plain: make([]int, many*each), got: make([][]int64, many)}
	defer time.AfterFunc(30*time.Second, func() { x.late.Store(true) }).Stop()
	aid.Beside(many, func(h int) {
		r := rand.New(rand.NewSource(int64(h)))
		for i := 0; i < each && !x.late.Load(); {
			pushes, pops := burst(r)
			for ; pushes > 0 && i < each; pushes-- {
				if x.push(int64(h*each + i)) {
					i++
				} else {
					x.pop(h)
				}
			}
			for range pops {
				x.pop(h)
			}
			x.looks()
		}
	})
	return x
}

func (x *crowd) push(v int64) bool {
	x.plain[v] = 1
	if x.s.Push(nil, v) != api.OK {
		x.refused.Add(1)
		return false
	}
	x.pushed.Add(1)
	return true
}

func (x *crowd) pop(hand int) {
	x.pops.Add(1)
	v, ok := x.s.Pop(nil)
	if !ok {
		x.pops.Add(-1)
		x.refused.Add(1)
		runtime.Gosched()
		return
	}
	if v < 0 || v >= int64(len(x.plain)) || x.plain[v] != 1 {
		x.amiss.Add(1)
	}
	x.got[hand] = append(x.got[hand], v)
}

func (x *crowd) looks() {
	in := x.pushed.Load() // ahead of the Pops: those of them that were popped began
	if in-x.pops.Load() > x.n {
		x.amiss.Add(1)
	}
}

// wrong: how often it went wrong: values that are popped twice, or neither popped nor there. What is there is popped then.
func (x *crowd) wrong() int {
	wrong := int(x.amiss.Load())
	seen := slices.Concat(x.got...)
	for range x.n + 1 {
		if v, ok := x.s.Pop(nil); ok {
			seen = append(seen, v)
		}
	}
	slices.Sort(seen)
	for i := range max(len(seen), len(x.plain)) {
		if i >= min(len(seen), len(x.plain)) || seen[i] != int64(i) {
			wrong++
		}
	}
	return wrong
}

// holds: whether nothing went wrong, and the stack, emptied, is as at first: no node is lost, none is in two places.
func (x *crowd) holds(t *testing.T, of size, what string) {
	t.Helper()
	if n := x.wrong(); n != 0 {
		t.Fatalf("what follows: of %v, %d hands, %s: %d times wrong", of, len(x.got), what, n)
	}
	if l := goesAround(of.n); !asPlain(of.plain(), l, all(x.s, nil, l...)) {
		t.Fatalf("what follows: of %v, %d hands, %s: behind that it is not as at first", of, len(x.got), what)
	}
}

// TestNothingIsLost: each value that was pushed is popped once, by whomever, or is there.
func TestNothingIsLost(t *testing.T) {
	for _, of := range []size{{1, 0}, {2, -1}, {3, lastTag}, {hands, -2000}, {64, lastTag - 1000}, {api.MaxNodes, 0}} {
		for _, many := range []int{1, 2, 3, hands} {
			for what, burst := range map[string]func(r *rand.Rand) (int, int){
				"they pop what does not go in": func(*rand.Rand) (int, int) { return 1000, 0 },
				"they pop each":                func(*rand.Rand) (int, int) { return 1, 1 },
				"they pop in vain":             func(*rand.Rand) (int, int) { return 1, 3 },
				"two, and two":                 func(*rand.Rand) (int, int) { return 2, 2 },
				"some, and some":               func(r *rand.Rand) (int, int) { return r.Intn(6), r.Intn(6) },
				"many, and some":               func(r *rand.Rand) (int, int) { return r.Intn(100), r.Intn(30) },
			} {
				passes(of, many, 24000/many, burst).holds(t, of, what)
			}
		}
	}
}

// TestStoppedByTheMachine: the same, where there are more hands than the machine lets go at one time, so that it stops them in the midst of their calls for a while, in which the others bring the nodes back.
func TestStoppedByTheMachine(t *testing.T) {
	const many = 2 * hands
	defer runtime.GOMAXPROCS(runtime.GOMAXPROCS(2 * many))
	for _, of := range []size{{4, 0}, {6, -1}, {9, lastTag - 1000}, {many, 0}, {64, 1 << 15}} {
		for _, k := range []int{1, 1, 3} {
			passes(of, many, 25000, func(*rand.Rand) (int, int) { return k, k }).holds(t, of, "who are stopped")
		}
	}
}

// TestNotInVain: where each hand pushes so many, and pops as many, and there are nodes for them all, no Push and no Pop is refused.
func TestNotInVain(t *testing.T) {
	for _, k := range []int{1, 2, 5} {
		for _, tag := range []int64{0, lastTag - 5000} {
			x := passes(size{hands * k, tag}, hands, 50000, func(*rand.Rand) (int, int) { return k, k })
			if n := x.refused.Load(); n != 0 {
				t.Errorf("what follows: %d each: %d calls are refused", k, n)
			}
			x.holds(t, size{n: hands * k}, "none in vain")
		}
	}
}

// TestOneHasTheNode: of those who push together where one node is free just one does, and his value is there.
func TestOneHasTheNode(t *testing.T) {
	meet(t, 2, []int64{-1}, func(h int) []call { return []call{pushes(int64(h))} }, 1)
}

// TestOneHasTheValue: of those who pop together where one value is there just one does.
func TestOneHasTheValue(t *testing.T) {
	meet(t, 1, []int64{-1}, func(int) []call { return []call{pops} }, 1)
}

// TestAllArePushed: where a node is free for each.
func TestAllArePushed(t *testing.T) {
	meet(t, hands, nil, func(h int) []call { return []call{pushes(int64(h))} }, hands)
}

// TestAllArePopped: where a value is there for each.
func TestAllArePopped(t *testing.T) {
	meet(t, hands, []int64{-1, -2, -3, -4, -5, -6, -7, -8}, func(int) []call { return []call{pops} }, hands)
}

// TestSomePushAndSomePop: where a node is free for each who pushes, and a value there for each who pops.
func TestSomePushAndSomePop(t *testing.T) {
	meet(t, hands, []int64{-1, -2, -3, -4}, func(h int) []call { return [][]call{{pushes(int64(h))}, {pops}}[h%2] }, hands)
}

// TestTheTopComesBack: one hand pops, and the others what brings its node back.
func TestTheTopComesBack(t *testing.T) {
	meet(t, hands+2, []int64{-1, -2}, func(h int) []call {
		if h == 0 {
			return []call{pops, pops}
		}
		return []call{pushes(int64(10 * h)), pops, pops, pushes(int64(10*h + 1))}
	}, 0)
}

// meet: hands meet at stacks of n nodes where these values are there, and make their calls; so many of these are done, where it is not 0. In the end each value that was there, or pushed, is popped, or there, once, and the stack is as at first.
func meet(t *testing.T, n int, values []int64, calls func(hand int) []call, done int) {
	t.Helper()
	stacks := make([]*stack.Stack, meetings)
	for i := range stacks {
		stacks[i] = size{n, tags()[i%len(tags())]}.stack()
		for _, v := range values {
			stacks[i].Push(nil, v)
		}
	}
	var got [hands][meetings][]answer
	aid.Together(hands, meetings, func(h, i int) { got[h][i] = all(stacks[i], nil, calls(h)...) })
	for i, s := range stacks {
		in, out, did := slices.Clone(values), []int64(nil), 0
		for h := range got {
			for k, c := range calls(h) {
				switch a := got[h][i][k]; {
				case c.op == pop && a.ok:
					out = append(out, a.v)
					did++
				case c.op == push && a == okay:
					in = append(in, c.v)
					did++
				}
			}
		}
		for v, ok := s.Pop(nil); ok && len(out) <= len(in); v, ok = s.Pop(nil) {
			out = append(out, v)
		}
		slices.Sort(in)
		slices.Sort(out)
		l := goesAround(n)
		if behind := all(s, nil, l...); !slices.Equal(in, out) || done != 0 && did != done || !asPlain(plain{room: n}, l, behind) {
			t.Fatalf("what follows: at the meeting %d %d calls are done; %v were there, %v are popped; then %v", i, did, in, out, behind)
		}
	}
}

// TestOneOrder: small programs of several hands: there is an order of all calls that were not refused in which a stack answers so, and is left so.
func TestOneOrder(t *testing.T) {
	for seed := range int64(6000) {
		r := rand.New(rand.NewSource(seed))
		of := size{1 + r.Intn(4), aid.Some(r.Intn, tags())}
		s := of.stack()
		var calls, done [4][]call
		var got [4][]answer
		for h := range calls {
			for i := range 4 {
				calls[h] = append(calls[h], call{op: aid.Some(r.Intn, []int{push, pop}), v: int64(10*h + i)})
			}
		}
		aid.Beside(len(calls), func(h int) {
			for _, c := range calls[h] {
				if a := do(s, nil, c); a != full {
					done[h], got[h] = append(done[h], c), append(got[h], a)
				}
			}
		})
		l := empties(of.n)
		left := all(s, nil, l...)
		if !aid.Explained(done[:], got[:], of.plain(), does, func(as plain) bool { return asPlain(as, l, left) }) {
			t.Fatalf("what follows: seed %d: of %v no order of %+v answers %v and leaves %v", seed, of, done, got, left)
		}
	}
}
