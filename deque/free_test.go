package deque_test

import (
	"math"
	"math/rand"
	"runtime"
	"slices"
	"sync/atomic"
	"testing"
	"time"

	"treadle/aid"
	"treadle/api"
	"treadle/deque"
)

// (What plain memory is handed on the race detector sees besides.)

const hands, meetings = 8, 50000

// passage: one owner pushes the values from 1 up, thieves steal meanwhile, till all are got.
type passage struct {
	d       *deque.Deque
	plain   []int        // of each value: 1, laid ahead of its Push
	pushed  atomic.Int64 // the last value whose Push is through
	amiss   atomic.Int64 // how often a value came ahead of its Push, or when it was to be gone
	through atomic.Bool  // the owner is, and then nothing is there
	late    atomic.Bool  // where something goes wrong they might go on for ever
	popped  []int64
	stolen  [][]int64 // by each thief, in his order
	lost    []int     // how often each thief was
}

// passes: such a passage of so many values. burst says how many the owner pushes, and how often he pops behind that, again and again.
func passes(d *deque.Deque, thieves, values int, burst func() (pushes, pops int)) *passage {
	x := &passage{d: d, plain: make([]int, values+1), stolen: make([][]int64, thieves), lost: make([]int, thieves)}
	defer time.AfterFunc(30*time.Second, func() { x.late.Store(true) }).Stop()
	aid.Beside(1+thieves, func(h int) {
		if h > 0 {
			x.steals(h - 1)
			return
		}
		x.pushes(burst)
		for x.pop() && len(x.popped) < len(x.plain) {
		}
		x.through.Store(true)
	})
	return x
}

func (x *passage) pushes(burst func() (pushes, pops int)) {
	for i := 1; i < len(x.plain) && !x.late.Load(); {
		pushes, pops := burst()
		for ; pushes > 0 && i < len(x.plain); pushes-- {
			x.plain[i] = 1
			if x.d.Push(nil, int64(i)) == api.OK {
				x.pushed.Store(int64(i))
				i++
			} else {
				x.pop()
			}
		}
		for range pops {
			x.pop()
		}
	}
}

func (x *passage) pop() bool {
	v, ok := x.d.Pop(nil)
	if ok {
		x.sees(v)
		x.popped = append(x.popped, v)
	}
	return ok
}

func (x *passage) steals(thief int) {
	gone := int64(0) // it was pushed, and then nothing was there
	for len(x.stolen[thief]) < len(x.plain) && !x.late.Load() {
		through, pushed := x.through.Load(), x.pushed.Load()
		switch v, how := x.d.Steal(nil); {
		case how == deque.Got:
			x.sees(v)
			if v <= gone {
				x.amiss.Add(1)
			}
			x.stolen[thief] = append(x.stolen[thief], v)
		case how == deque.Lost:
			x.lost[thief]++
		case through:
			return
		default:
			gone = pushed
			runtime.Gosched()
		}
	}
}

func (x *passage) sees(v int64) {
	if v < 1 || v >= int64(len(x.plain)) || x.plain[v] != 1 {
		x.amiss.Add(1)
	}
}

// wrong: how often it went wrong: values that are got twice or not at all; thieves whose values do not rise, or who lost more often than others got something.
func (x *passage) wrong() int {
	values, wrong := len(x.plain)-1, int(x.amiss.Load())
	seen := slices.Concat(x.popped, slices.Concat(x.stolen...))
	slices.Sort(seen)
	for i := range max(len(seen), values) {
		if i >= min(len(seen), values) || seen[i] != int64(i+1) {
			wrong++
		}
	}
	for i, l := range x.stolen {
		if !slices.IsSorted(l) || x.lost[i] > values-len(l) {
			wrong++
		}
	}
	return wrong
}

// TestNothingIsLost: each value that was pushed is got once, by whomever. Behind that the deque is as at first.
func TestNothingIsLost(t *testing.T) {
	const values = 30000
	for _, of := range []size{{2, 0}, {2, math.MaxInt64 - 100}, {4, -1000}, {64, math.MaxInt64}, {api.MaxRing, math.MaxInt64 - 9000}} {
		for _, thieves := range []int{0, 1, 2, hands - 1} {
			r := rand.New(rand.NewSource(int64(thieves)))
			for what, burst := range map[string]func() (int, int){
				"he pops what does not go in": func() (int, int) { return 1000, 0 },
				"he pops each":                func() (int, int) { return 1, 1 },
				"he pops in vain":             func() (int, int) { return 1, 3 },
				"two, and two":                func() (int, int) { return 2, 2 },
				"some, and some":              func() (int, int) { return r.Intn(6), r.Intn(6) },
				"many, and some":              func() (int, int) { return r.Intn(100), r.Intn(30) },
			} {
				d := of.deque()
				if n := passes(d, thieves, values, burst).wrong(); n != 0 {
					t.Fatalf("what follows: of %v, %d thieves, %s: %d times wrong", of, thieves, what, n)
				}
				if l := goesAround(of.n); of.n < 100 && !asPlain(of.plain(), l, all(d, nil, l...)) {
					t.Errorf("what follows: of %v, %d thieves, %s: behind that it is not as at first", of, thieves, what)
				}
			}
		}
	}
}

// TestNotInVain: one thief, who steals no more often than the owner has left values for it, is never refused, nor Lost; the owner, who leaves them alone, pops what he pushed last; a Push is refused just where no place is left.
func TestNotInVain(t *testing.T) {
	const each = 100000
	for _, of := range []size{{2, 0}, {4, math.MaxInt64 - 1000}, {64, -5}} {
		d, r := of.deque(), rand.New(rand.NewSource(1))
		var has, got []int64           // what the owner pushed and did not pop; what the thief got
		var granted, done atomic.Int64 // to the thief, of those; by him
		var through atomic.Bool
		var wrong atomic.Int64
		is := func(right bool) {
			if !right {
				wrong.Add(1)
			}
		}
		owns := func() {
			for i := int64(0); i < each && wrong.Load() == 0; {
				mine, room := int64(len(has))-granted.Load(), int64(of.n)+done.Load()-int64(len(has))
				if mine >= 2 && r.Intn(2) == 0 {
					v, ok := d.Pop(nil)
					is(ok && v == has[len(has)-1])
					has = has[:len(has)-1]
				} else if mine >= 1 && r.Intn(2) == 0 {
					granted.Add(1)
				} else if d.Push(nil, i) == api.OK {
					has = append(has, i)
					i++
				} else {
					is(room <= 0)
					runtime.Gosched()
				}
			}
			through.Store(true)
		}
		steals := func() {
			for {
				if all := through.Load(); done.Load() < granted.Load() {
					v, how := d.Steal(nil)
					is(how == deque.Got)
					got = append(got, v)
					done.Add(1)
				} else if all {
					return
				} else {
					runtime.Gosched()
				}
			}
		}
		aid.Beside(2, func(h int) { []func(){owns, steals}[h]() })
		if wrong.Load() != 0 || !slices.Equal(got, has[:granted.Load()]) || len(got) < each/10 {
			t.Errorf("what follows: of %v: %d times it is refused, or another value; %d are stolen", of, wrong.Load(), len(got))
		}
	}
}

// TestLengths: where nobody pops: what others are told is between what may be there.
func TestLengths(t *testing.T) {
	const each = 300000
	for _, of := range []size{{2, 0}, {64, math.MaxInt64 - 1000}} {
		d := of.deque()
		var began, did [2]atomic.Int64 // of Pushes and of Steals
		var wrong atomic.Int64
		counts := func(op int, c call) {
			began[op].Add(1)
			if a := do(d, nil, c); c.op == push && a == okay || a.got() {
				did[op].Add(1)
			} else {
				began[op].Add(-1)
			}
		}
		looks := func() {
			in, out := did[0].Load(), did[1].Load()
			n := d.Len(nil)
			if n < in-began[1].Load() || n > began[0].Load()-out || n < 0 {
				wrong.Add(1)
			}
		}
		aid.Beside(5, func(h int) {
			for i := range int64(each) {
				if h == 0 {
					counts(0, pushes(i))
				}
				if h < 2 { // the owner steals, too, so that both ends move wherever there are two hands at one time
					counts(1, steals)
					continue
				}
				looks()
			}
		})
		if wrong.Load() != 0 || d.Len(nil) != did[0].Load()-did[1].Load() {
			t.Errorf("P7.5: of %v: %d times a length is wrong; at the end it is %d", of, wrong.Load(), d.Len(nil))
		}
	}
}

// TestOneHasTheLast: of an owner and thieves who come together where one value is there just one has it.
func TestOneHasTheLast(t *testing.T) {
	meet(t, []int64{-1}, []call{pops}, []call{steals})
}

// TestEachIsHad: where two values are there, the owner gets what no thief does.
func TestEachIsHad(t *testing.T) {
	meet(t, []int64{-1, -2}, []call{pops, pops}, []call{steals})
}

// TestWhatIsPushedIsHad: the same, where the owner pushes one meanwhile.
func TestWhatIsPushedIsHad(t *testing.T) {
	meet(t, []int64{-1}, []call{pushes(-2), pops, pops}, []call{steals, steals})
}

// TestThievesAlone: of several one gets on always: where each is lost once at most, as there are two values, in three Steals all are had.
func TestThievesAlone(t *testing.T) {
	meet(t, []int64{-1, -2}, nil, []call{steals, steals, steals})
}

// meet: an owner and thieves meet at deques of two places where these values are there. In the end each value that was there, or is pushed, is to be had, once, and the deque to be as at first.
func meet(t *testing.T, values []int64, owner, thief []call) {
	t.Helper()
	deques, want := make([]*deque.Deque, meetings), slices.Clone(values)
	for i := range deques {
		deques[i] = size{2, aid.Positions()[i%len(aid.Positions())]}.deque()
		for _, v := range values {
			deques[i].Push(nil, v)
		}
	}
	for _, c := range owner {
		if c.op == push {
			want = append(want, c.v)
		}
	}
	var got [hands][meetings][]answer
	aid.Together(hands, meetings, func(h, i int) { got[h][i] = all(deques[i], nil, [][]call{owner, thief}[min(h, 1)]...) })
	for i, d := range deques {
		var had []int64
		for h := range got {
			for _, a := range got[h][i] {
				if a.got() {
					had = append(had, a.v)
				}
			}
		}
		slices.SortFunc(had, func(a, b int64) int { return int(b - a) })
		l := goesAround(2)
		if behind := all(d, nil, l...); !slices.Equal(had, want) || !asPlain(plain{room: 2}, l, behind) {
			t.Fatalf("what follows: of %v there are had %v; then %v", want, had, behind)
		}
	}
}

// TestLost: a thief whom somebody else forestalls is told that he is Lost. (They go on till one is, or for very long.)
func TestLost(t *testing.T) {
	d := size{64, 0}.deque()
	var told, late atomic.Bool
	defer time.AfterFunc(30*time.Second, func() { late.Store(true) }).Stop()
	aid.Beside(hands, func(h int) {
		for !told.Load() && !late.Load() {
			if h == 0 {
				d.Push(nil, 1)
			} else if do(d, nil, steals) == lost {
				told.Store(true)
			}
		}
	})
	if !told.Load() {
		t.Error("P7.4: nobody is told that he is Lost")
	}
}

// TestOneOrder: small programs of several hands: there is an order of all calls, but Steals that are Lost, in which a deque answers so, and is left so.
func TestOneOrder(t *testing.T) {
	for seed := range int64(6000) {
		r := rand.New(rand.NewSource(seed))
		of := size{2 << r.Intn(2), aid.Some(r.Intn, aid.Positions())}
		d := of.deque()
		var calls, done [4][]call
		var got [4][]answer
		for i := range 8 {
			calls[0] = append(calls[0], call{op: aid.Some(r.Intn, []int{push, push, pop}), v: int64(i)})
		}
		for h := range calls[1:] {
			calls[1+h] = slices.Repeat([]call{steals}, 3)
		}
		aid.Beside(len(calls), func(h int) {
			for _, c := range calls[h] {
				if a := do(d, nil, c); a != lost {
					done[h], got[h] = append(done[h], c), append(got[h], a)
				}
			}
		})
		left := all(d, nil, empties(of.n)...)
		fits := func(s plain) bool { return asPlain(s, empties(of.n), left) }
		if !aid.Explained(done[:], got[:], of.plain(), does, fits) {
			t.Fatalf("what follows: seed %d: of %v no order of %+v answers %v and leaves what is left", seed, of, done, got)
		}
	}
}
