package choice_test

import (
	"math"
	"runtime"
	"slices"
	"testing"
	"weak"

	"treadle/aid"
	"treadle/api"
	"treadle/cell"
	"treadle/choice"
	"treadle/gate"
	"treadle/pipe"
)

// What is whose: a call's, a caller's, a choice's.

// TestNew: of a bell, whatever it holds; nil of one that is none.
func TestNew(t *testing.T) {
	defer inTime()()
	for who, bell := range map[string]*cell.Cell{"nil": nil, "made by no call": {}, "made by new": new(cell.Cell)} {
		for _, f := range aid.Idle(func(by string, th *gate.Thread) {
			if c := choice.New(bell); c != nil {
				t.Errorf("P21.1, R3: a bell %s, by %s: %v", who, by, c)
			}
		}) {
			t.Errorf("P21.1: a bell %s: %s", who, f)
		}
	}
	var held []int64
	for _, v := range append(aid.Positions(), aid.Values()...) {
		bell := cell.New(v)
		c := choice.New(bell)
		p := newPipe(2, bell)
		if c == nil || c == choice.New(bell) || bell.Load(nil) != v {
			t.Errorf("P21.1: a bell of %d: it holds %d", v, bell.Load(nil))
		}
		if x := resultsOf(c.Try(nil, choice.Case{Pipe: p, Send: true, Value: v})); x != (results{0, 0, true, 0}) || bell.Load(nil) != v+1 {
			t.Errorf("P21.1, P21.3: a bell of %d: %v, and then it holds %d", v, x, bell.Load(nil))
		}
		held = append(held, v)
	}
	if !slices.Contains(held, 0) {
		t.Error("no bell of 0")
	}
}

// TestNewMakesNoAccess: of a bell that other threads of the run use, too; nor does it change what they see of it, or wake who sleeps.
func TestNewMakesNoAccess(t *testing.T) {
	bell := cell.New(3)
	made := 0
	r := gate.Run([]int{1}, 9, func(th *gate.Thread) {
		made += aid.Digit(choice.New(bell) != nil)
		th.Mark(1, 10)
		bell.Load(th)
		made += aid.Digit(choice.New(bell) != nil)
		bell.Add(th, 0)
		made += aid.Digit(choice.New(bell) != nil)
	}, func(th *gate.Thread) {
		made += aid.Digit(choice.New(bell) != nil)
		bell.Park(th, 3)
		t.Error("P21.1: somebody wakes who sleeps by the bell")
	})
	if s := aid.Texts(r.Log); s != "0 mark 1 10; 0 load c0: 3; 0 add c0 0: 3" || made != 4 || aid.Texts(r.Left) != "1 park c0 3: 3" {
		t.Errorf("P21.1: %d are made: %s; left %s", made, s, aid.Texts(r.Left))
	}
	for _, f := range aid.Idle(func(who string, _ *gate.Thread) {
		if c := choice.New(bell); c == nil {
			t.Errorf("P21.1: by %s: none", who)
		}
	}) {
		t.Errorf("P21.1: %s", f)
	}
}

// TestNotLiving: a call that is handed a thread that does not live makes no access of the thread in whose goroutine it is.
func TestNotLiving(t *testing.T) {
	defer inTime()()
	calls := []call{tries(from(0), from(1)), picks(into(0, 5), from(1)), tries(from(1), into(1, 6)), picks(from(0), from(1)), tries(from(0), from(1)), tries(from(0), from(0)), closes(1), picks(from(0), from(1)), picks(into(1, 7)), tries()}
	want := []answer{notYet, sent(0), sent(1), got(1, 6), got(0, 5), notYet, okay, overBy(1), refusedBy(0), noOne}
	for what, th := range aid.NotLiving() {
		w := newWorld(made, two)
		var l []answer
		r := gate.Run(nil, 9, func(*gate.Thread) { l = w.allOf(th, calls...) })
		if !slices.Equal(l, want) || len(r.Log) != 0 || r.End != api.Over || w.bell.Load(nil) != 5 {
			t.Errorf("P21.3, P21.4: %s: %v, not %v: %+v; the bell %d", what, l, want, r, w.bell.Load(nil))
		}
	}
}

// TestEachIsItsOwn: what one choice has taken for tickets is nothing to another one of the same bell.
func TestEachIsItsOwn(t *testing.T) {
	bell := cell.New(0)
	ended := newPipe(2, bell)
	ended.Close(nil)
	l := slices.Repeat([]choice.Case{{Pipe: ended}}, 4)
	x, y := choice.New(bell), choice.New(bell)
	place := func(c *choice.Choice) int {
		i, _, _, _ := c.Try(nil, l...)
		return i
	}
	got := []int{place(x), place(x), place(y), place(x), place(choice.New(bell)), place(y), place(x)}
	if want := []int{0, 1, 0, 2, 0, 1, 3}; !slices.Equal(got, want) {
		t.Errorf("P21.1: %v, not %v", got, want)
	}
}

// TestTicketsAreOfCalls: each call that is not refused takes one, whatever the cases are, and what is found; and none else.
func TestTicketsAreOfCalls(t *testing.T) {
	defer inTime()()
	w := newWorld(made, planOf(3, 0))
	w.pipes[2].Close(nil)
	w.allOf(nil, tries(from(0)), tries(), tries(from(0), from(1), from(2), from(0)), picks(from(strange)), picks(into(0, 4)), tries(from(null)), picks(from(0), from(1)), picks(from(2)), tries(into(2, 4)))
	r, told := w.one(tries(from(2), from(2), from(2), from(2)))
	if told != "try0(r2,r2,r2,r2):over@2" || r.Log[0].Was != 6 {
		t.Errorf("P21.3, P21.4: %s: %s", told, aid.Texts(r.Log))
	}
}

// TestTheValueOfAReceive is not looked at.
func TestTheValueOfAReceive(t *testing.T) {
	defer inTime()()
	for _, v := range aid.Values() {
		bell := cell.New(0)
		c, p := choice.New(bell), newPipe(2, bell)
		p.TrySend(nil, 5)
		if x := resultsOf(c.Select(nil, choice.Case{Pipe: p, Value: v})); x != (results{0, 5, true, 0}) {
			t.Errorf("P21.4: beside the Value %d: %v", v, x)
		}
		if x := resultsOf(c.Try(nil, choice.Case{Pipe: p, Value: v})); x != (results{-1, 0, false, 0}) {
			t.Errorf("P21.3: beside the Value %d: %v", v, x)
		}
	}
}

// TestTheListIsTheCallers: it is not changed, with its spare room, whatever is answered.
func TestTheListIsTheCallers(t *testing.T) {
	defer inTime()()
	bell := cell.New(0)
	c, a, b := choice.New(bell), newPipe(2, bell), newPipe(2, bell)
	all := []choice.Case{{a, false, 1}, {b, true, 2}, {a, true, 3}, {nil, true, 4}, {newPipe(2, nil), false, 5}, {&pipe.Pipe{}, false, 6}}
	was := slices.Clone(all)
	for n := range len(all) + 1 {
		for range 9 {
			c.Try(nil, all[:n]...)
			if n > 1 {
				a.TryRecv(nil)
				b.TryRecv(nil)
				c.Select(nil, all[:n]...)
			}
		}
		if a.Close(nil); !slices.Equal(all, was) {
			t.Fatalf("R5: of %d: %v, not %v", n, all, was)
		}
	}
}

// isKept: whether it is.
func isKept[T any](p weak.Pointer[T]) bool {
	for range 9 {
		runtime.GC()
	}
	return p.Value() != nil
}

// TestWhatIsKept: the bell, and nothing of those who called: neither a thread nor a pipe.
func TestWhatIsKept(t *testing.T) {
	defer inTime()()
	var thread weak.Pointer[gate.Thread]
	bell := cell.New(math.MaxInt64)
	c, kept := choice.New(bell), weak.Make(bell)
	p := newPipe(2, bell)
	handed := weak.Make(p)
	gate.Run(nil, 99, func(t *gate.Thread) {
		thread = weak.Make(t)
		c.Try(t, choice.Case{Pipe: p})
		c.Select(t, choice.Case{Pipe: p, Send: true}, choice.Case{Pipe: p})
		c.Try(t)
	})
	bell, p = nil, nil
	if isKept(thread) || isKept(handed) || !isKept(kept) {
		t.Errorf("what is kept: a thread %v, a pipe %v, the bell %v", isKept(thread), isKept(handed), isKept(kept))
	}
	if runtime.KeepAlive(c); isKept(kept) {
		t.Error("what is kept: the bell, by nobody")
	}
}
