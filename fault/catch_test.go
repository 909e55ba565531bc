package fault_test

import (
	"errors"
	"io"
	"math"
	"runtime"
	"slices"
	"testing"

	"treadle/aid"
	"treadle/api"
	"treadle/fault"
)

// values: some of all kinds.
func values() map[string]any {
	_, own := aid.Stopped()
	return map[string]any{
		"a number": 7, "nought": 0, "false": false, "a text": "x", "no text": "", "an error": io.EOF, "an errno": api.ErrFailed, "no errno": api.OK,
		"a pointer": new(int), "no pointer": (*int)(nil), "a list": []int{1}, "no list": []int(nil), "a map": map[int]int{}, "a function": func() {}, "a struct": struct{}{}, "an array": [2]any{1, "x"},
		"failed": &fault.Failed{Code: 1}, "no failed": (*fault.Failed)(nil), "not by its pointer": fault.Failed{Code: 1}, "cancelled": &fault.Cancelled{Reason: 5}, "late": &fault.Late{Due: 9}, "panicked": &fault.Panicked{Value: 3}, "no panicked": (*fault.Panicked)(nil), "at": fault.Wrap(3, io.EOF),
		"the gate's own, carried": fault.Of(own), "the gate's own, in a list": [1]any{own}, "an error around one": &around{io.EOF}, "some errors": several{io.EOF},
	}
}

// is: whether x is that value; of those that can't be held against each other, whether its type is.
func is(x, value any) bool {
	switch v := value.(type) {
	case []int:
		l, is := x.([]int)
		return is && len(l) == len(v) && (len(l) == 0 || &l[0] == &v[0])
	case map[int]int:
		m, is := x.(map[int]int)
		if is {
			v[len(v)] = 1
			return len(m) == len(v)
		}
		return false
	case func():
		_, is := x.(func())
		return is
	case several:
		l, is := x.(several)
		return is && slices.EqualFunc(l, v, same)
	}
	return x == value
}

func TestOf(t *testing.T) {
	if e := fault.Of(nil); e != nil {
		t.Errorf("P12.2: of nil: %v", e)
	}
	l := values()
	_, l["the gate's own"] = aid.Stopped()
	for what, x := range l {
		a, b := fault.Of(x), fault.Of(x)
		p, isOne := a.(*fault.Panicked)
		if !isOne || !is(p.Value, x) || a == b || a.Error() != "panic" {
			t.Errorf("P12.2: of %s: %#v", what, a)
		}
		if e, isError := x.(error); isError && errors.Is(a, io.EOF) || fault.Class(a) != api.ErrPanic || len(fault.Numbers(a)) != 0 {
			t.Errorf("P12.2: of %s: what is in %v is found: class %d, numbers %v", what, e, fault.Class(a), fault.Numbers(a))
		}
	}
}

// TestAnswers: what f answers; beside an error the int is 0.
func TestAnswers(t *testing.T) {
	for _, v := range aid.Values() {
		if a := catch(answers(v, nil)); a != (answer{v: v}) {
			t.Errorf("P12.3: %d: %v", v, a)
		}
	}
	errs := append(nils(), &fault.Failed{Code: 1}, &fault.Cancelled{Reason: 1}, &fault.Late{Due: 1}, &fault.Panicked{Value: 1}, &fault.At{}, fault.Wrap(3, &fault.Late{}), io.EOF, plain(""), &around{io.EOF}, &around{}, several{io.EOF}, api.ErrArg, api.OK, &falls{1}, (*falls)(nil), (*api.Errno)(nil), &sets{})
	for i, e := range errs {
		for _, v := range []int64{5, 0, -1, math.MinInt64} {
			if a := catch(answers(v, e)); a.v != 0 || !same(a.e, e) {
				t.Errorf("P12.3: beside the error number %d: %d %v", i, a.v, a.e)
			}
		}
	}
}

// TestCalledOnce: f is, whatever it does; and of none there is nothing to call.
func TestCalledOnce(t *testing.T) {
	for what, f := range map[string]func() (int64, error){"answers": answers(5, nil), "an error": answers(5, io.EOF), "panics": panics(7), "panics with nil": panics(nil)} {
		called := 0
		catch(func() (int64, error) { called++; return f() })
		if called != 1 {
			t.Errorf("P12.3: one that %s is called %d times", what, called)
		}
	}
	for range 2 {
		if v, e := fault.Catch(nil); v != 0 || e != error(api.ErrArg) {
			t.Errorf("P12.3: of nil: %d %v", v, e)
		}
	}
}

// TestCarried: whatever f panics with, just that is carried.
func TestCarried(t *testing.T) {
	for what, x := range values() {
		var a answer
		if out := aid.Caught(func() { a = catch(panics(x)) }); out != nil {
			t.Errorf("P12.3: %s: out comes %v", what, out)
		}
		if a.v != 0 || !is(carried(t, what, a.e), x) {
			t.Errorf("P12.3: %s: %d %#v", what, a.v, a.e)
		}
	}
	own := errors.New("own")
	if a := catch(panics(own)); errors.Is(a.e, own) || carried(t, "own", a.e) != own {
		t.Errorf("P12.3: of an error: it is found in %v", a.e)
	}
	one, other := catch(panics(7)), catch(panics(7))
	if one.e == other.e {
		t.Errorf("R5: two answers are one")
	}
}

// TestCarriedFromTheMachine: what the machine panics with, of nil too: just what recover tells.
func TestCarriedFromTheMachine(t *testing.T) {
	nought, none := 0, (*fault.Failed)(nil)
	var m map[int]int
	var l []int
	var f func() (int64, error)
	for what, row := range map[string]struct {
		f    func() (int64, error)
		text string
	}{
		"a division by nought": {func() (int64, error) { return int64(1 / nought), nil }, "runtime error: integer divide by zero"},
		"a place past the end": {func() (int64, error) { return int64(l[nought]), nil }, "runtime error: index out of range [0] with length 0"},
		"a nil map":            {func() (int64, error) { m[1] = 2; return 5, nil }, "assignment to entry in nil map"},
		"a nil pointer":        {func() (int64, error) { return none.Code, nil }, "runtime error: invalid memory address or nil pointer dereference"},
		"a nil function":       {func() (int64, error) { return f() }, "runtime error: invalid memory address or nil pointer dereference"},
	} {
		var told any
		a := catch(func() (int64, error) {
			defer func() { told = recover(); panic(told) }()
			return row.f()
		})
		e, is := carried(t, what, a.e).(runtime.Error)
		if a.v != 0 || !is || e.Error() != row.text || e != told {
			t.Errorf("P12.3: %s: %d %v", what, a.v, a.e)
		}
		if b := catch(row.f); b.v != 0 || carried(t, what, b.e).(error).Error() != row.text {
			t.Errorf("P12.3: %s: %d %v", what, b.v, b.e)
		}
	}
	a := catch(panics(nil))
	if _, is := carried(t, "nil", a.e).(*runtime.PanicNilError); a.v != 0 || !is {
		t.Errorf("P12.3: nil: %d %#v", a.v, a.e)
	}
}

// TestWhatFRecoversItself: that is f's own: what counts is how it ends.
func TestWhatFRecoversItself(t *testing.T) {
	late := &fault.Late{Due: 1}
	recovers := func(v int64, e error) func() (int64, error) {
		return func() (w int64, f error) {
			defer func() { _ = recover(); w, f = v, e }()
			panic("x")
		}
	}
	if a := catch(recovers(5, nil)); a != (answer{v: 5}) {
		t.Errorf("P12.3: it recovers, and answers: %v", a)
	}
	if a := catch(recovers(5, late)); a != (answer{e: late}) {
		t.Errorf("P12.3: it recovers, and answers an error: %v", a)
	}
	for what, f := range map[string]func() (int64, error){
		"behind its answer":    func() (int64, error) { defer panic("last"); return 5, nil },
		"behind an error":      func() (int64, error) { defer panic("last"); return 5, late },
		"named":                func() (v int64, e error) { v, e = 5, late; panic("last") },
		"in place of the one":  func() (int64, error) { defer panic("last"); panic("x") },
		"behind what it knows": func() (int64, error) { defer func() { _ = recover(); panic("last") }(); panic("x") },
	} {
		if a := catch(f); a.v != 0 || carried(t, what, a.e) != "last" {
			t.Errorf("P12.3: %s: %d %v", what, a.v, a.e)
		}
	}
}

// TestWithin: a Catch within a Catch tells the inner one's answer.
func TestWithin(t *testing.T) {
	for what, f := range map[string]func() (int64, error){"answers": answers(5, nil), "an error": answers(5, io.EOF), "panics": panics(7), "panics with an error": panics(&fault.Failed{Code: 1}), "nil": nil} {
		var inner answer
		a := catch(func() (int64, error) {
			inner = catch(f)
			return inner.v, inner.e
		})
		if a != inner {
			t.Errorf("what follows: %s: %v, not %v", what, a, inner)
		}
		b := catch(func() (int64, error) { return fault.Catch(func() (int64, error) { return inner.v, inner.e }) })
		if b != inner {
			t.Errorf("what follows: %s, of three: %v, not %v", what, b, inner)
		}
		c := catch(func() (int64, error) { catch(f); return 6, nil })
		if c != (answer{v: 6}) {
			t.Errorf("what follows: behind one in which f %s: %v", what, c)
		}
		d := catch(func() (int64, error) { catch(f); panic("outer") })
		if d.v != 0 || carried(t, what, d.e) != "outer" {
			t.Errorf("what follows: behind one in which f %s, a panic: %v", what, d)
		}
	}
	a := catch(func() (int64, error) { panic(catch(panics(7)).e) })
	if p, is := carried(t, "what was carried", a.e).(*fault.Panicked); !is || p.Value != 7 {
		t.Errorf("what follows: what was carried, and is panicked with: %v", a)
	}
}

// TestBehindOneAnother: one behind another panics no less and no more.
func TestBehindOneAnother(t *testing.T) {
	for i, want := range []answer{{v: 5}, {e: io.EOF}, {v: 5}, {v: 6}} {
		a, b := catch(panics(i)), catch(answers(want.v, want.e))
		if carried(t, "a number", a.e) != i || b != want {
			t.Errorf("what follows: %v, then %v, not %v", a, b, want)
		}
	}
	if out := aid.Caught(func() { catch(panics(1)); panic(2) }); out != 2 {
		t.Errorf("what follows: behind a Catch: out comes %v", out)
	}
}

// TestInThePanicOfAnother: a Catch in a call that was deferred, and is made as a panic goes on, has nothing to do with that.
func TestInThePanicOfAnother(t *testing.T) {
	_, own := aid.Stopped()
	for _, x := range []any{"out", own} {
		var fine, fell answer
		out := aid.Caught(func() {
			defer func() { fine, fell = catch(answers(5, nil)), catch(panics("in")) }()
			panic(x)
		})
		if out != x || fine != (answer{v: 5}) || carried(t, "in", fell.e) != "in" {
			t.Errorf("what follows: out comes %v; %v, %v", out, fine, fell)
		}
	}
}

// TestExits: an f that ends its goroutine neither answers nor panics.
func TestExits(t *testing.T) {
	answered, out := false, any("none")
	aid.Beside(1, func(int) {
		defer func() { out = recover() }()
		fault.Catch(func() (int64, error) { runtime.Goexit(); return 5, nil })
		answered = true
	})
	if answered || out != nil {
		t.Errorf("P12.3: it answers, or %v comes out", out)
	}
}

// TestBeside: Catches of many goroutines at one time have nothing to do with one another.
func TestBeside(t *testing.T) {
	aid.Together(8, 200, func(hand, i int) {
		n := int64(hand*1000 + i)
		if a := catch(answers(n, nil)); a != (answer{v: n}) {
			t.Errorf("P12.3: %v", a)
		}
		if a := catch(panics(n)); a.v != 0 || a.e.(*fault.Panicked).Value != n {
			t.Errorf("P12.3: %v", a)
		}
	})
}
