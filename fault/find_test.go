package fault_test

import (
	"errors"
	"fmt"
	"io"
	"math"
	"slices"
	"testing"

	"treadle/aid"
	"treadle/api"
	"treadle/fault"
)

// TestExamples: the chapter's table.
func TestExamples(t *testing.T) {
	own, nought := errors.New("x"), 0
	for _, row := range []struct {
		e       error
		text    string
		class   api.Errno
		numbers []int
	}{
		{fault.Wrap(3, &fault.Failed{Code: -7}), "3: failed -7", api.ErrFailed, []int{3}},
		{fault.Wrap(1, fault.Wrap(2, &fault.Late{Due: 9})), "1: 2: late 9", api.ErrTime, []int{1, 2}},
		{&fault.Failed{Code: 1}, "failed 1", api.ErrFailed, nil},
		{&fault.At{Number: 4}, "4: ", api.ErrFailed, []int{4}},
		{own, "x", api.ErrFailed, nil},
	} {
		if row.e.Error() != row.text || fault.Class(row.e) != row.class || !slices.Equal(fault.Numbers(row.e), row.numbers) {
			t.Errorf("the examples: %s: %q, %d, %v", row.text, row.e, fault.Class(row.e), fault.Numbers(row.e))
		}
	}
	if fault.Wrap(1, nil) != nil || fault.Class(nil) != api.OK || len(fault.Numbers(nil)) != 0 {
		t.Errorf("the examples: nil: %v, %d, %v", fault.Wrap(1, nil), fault.Class(nil), fault.Numbers(nil))
	}
	if a := catch(panics(7)); a.v != 0 || carried(t, "7", a.e) != 7 {
		t.Errorf("the examples: panic(7): %v", a)
	}
	if a := catch(panics(own)); a.v != 0 || carried(t, "an error", a.e) != own || errors.Is(a.e, own) {
		t.Errorf("the examples: panic of an error: %v", a)
	}
	if a := catch(func() (int64, error) { return int64(1 / nought), nil }); a.v != 0 || carried(t, "a division", a.e) == nil {
		t.Errorf("the examples: a division by nought: %v", a)
	}
	failed, late := &fault.Failed{Code: 1}, &fault.Late{Due: 1}
	if a, b, c := catch(nil), catch(answers(5, failed)), catch(answers(5, nil)); a != (answer{e: api.ErrArg}) || b != (answer{e: failed}) || c != (answer{v: 5}) {
		t.Errorf("the examples: of nil, of 5 and an error, of 5: %v, %v, %v", a, b, c)
	}
	if i, e := fault.First(nil, late, failed); i != 1 || e != late {
		t.Errorf("the examples: First: %d %v", i, e)
	}
	if i, e := fault.First(); i != -1 || e != nil {
		t.Errorf("the examples: First of none: %d %v", i, e)
	}
}

func TestWrap(t *testing.T) {
	errs := append(nils(), &fault.Failed{Code: 1}, &fault.Panicked{Value: 1}, &fault.At{}, fault.Wrap(3, &fault.Late{}), io.EOF, &around{io.EOF}, several{io.EOF, nil}, api.OK, api.ErrPanic, &falls{1}, (*falls)(nil))
	for _, n := range numbers() {
		if e := fault.Wrap(n, nil); e != nil {
			t.Errorf("P12.4: %d, nil: %v", n, e)
		}
		for i, e := range errs {
			a, b := fault.Wrap(n, e), fault.Wrap(n, e)
			at, is := a.(*fault.At)
			if !is || at == nil || at.Number != n || !same(at.Err, e) || !same(errors.Unwrap(a), e) {
				t.Errorf("P12.4: %d, the error number %d: %#v", n, i, a)
			}
			if a == b {
				t.Errorf("R5: two answers are one")
			}
		}
	}
	inner := &fault.At{Number: 2, Err: io.EOF}
	outer := fault.Wrap(1, inner).(*fault.At)
	if outer.Err != error(inner) || *inner != (fault.At{Number: 2, Err: io.EOF}) {
		t.Errorf("P12.4: of what is wrapped: %v, %v", outer, inner)
	}
}

// errnos: all of them, and some that are none.
func errnos() []api.Errno {
	return []api.Errno{api.OK, api.ErrArg, api.ErrNil, api.ErrFell, api.ErrState, api.ErrFull, api.ErrClosed, api.ErrBusy, api.ErrDeep, api.ErrCancelled, api.ErrTime, api.ErrPanic, api.ErrFailed, api.ErrSelf, api.ErrNone, api.ErrStopped, api.ErrApart, api.ErrRecord, api.ErrHistory, api.ErrLong, api.ErrMany, api.ErrLex, api.ErrParse, api.ErrDepth, api.ErrName, api.ErrArgs, api.ErrLine, -1, 99, math.MaxInt, math.MinInt}
}

// TestClassOfErrnos: alone, and wrapped in every way.
func TestClassOfErrnos(t *testing.T) {
	for _, n := range errnos() {
		for i, e := range []error{
			n, fault.Wrap(1, n), fault.Wrap(1, fault.Wrap(2, n)), &around{n}, &around{fault.Wrap(1, &around{n})}, fmt.Errorf("x: %w", n), errors.Join(io.EOF, n, api.ErrDeep), several{nil, io.EOF, n}, several{plain("x"), several{&fault.At{Number: 1}, &around{n}}, &fault.Late{}},
			&sets{errno: n, sets: true, is: true}, fault.Wrap(1, &sets{errno: n, sets: true, is: true}), several{&sets{errno: n + 1, sets: true}, n}, several{n, &falls{1}},
		} {
			if got := fault.Class(e); got != n {
				t.Errorf("P12.5: %d, number %d: %d", n, i, got)
			}
		}
	}
}

// TestClass: of the errors of the chapter, and of those in which no number is found.
func TestClass(t *testing.T) {
	if n := fault.Class(nil); n != api.OK {
		t.Errorf("P12.5: nil: %d", n)
	}
	for n, l := range map[api.Errno][]error{
		api.ErrFailed:    {&fault.Failed{}, &fault.Failed{Code: 21}},
		api.ErrCancelled: {&fault.Cancelled{}, &fault.Cancelled{Reason: 22}},
		api.ErrTime:      {&fault.Late{}, &fault.Late{Due: 23}},
		api.ErrPanic:     {&fault.Panicked{}, &fault.Panicked{Value: &fault.Failed{}}, &fault.Panicked{Value: api.ErrDeep}, fault.Of(fault.Wrap(1, &fault.Late{}))},
	} {
		for _, e := range l {
			for i, f := range []error{e, fault.Wrap(1, e), fault.Wrap(-1, fault.Wrap(0, e)), &around{e}, fault.Wrap(1, &around{fault.Wrap(2, e)}), several{io.EOF, e, api.ErrDeep}, errors.Join(e, &fault.Late{}, &fault.Failed{})} {
				if got := fault.Class(f); got != n {
					t.Errorf("P12.5: %#v, number %d: %d", e, i, got)
				}
			}
		}
	}
	none := append(nils(), io.EOF, plain(""), &fault.At{Number: 4}, fault.Wrap(1, &fault.At{}), &around{io.EOF}, fmt.Errorf("x: %w", io.EOF), several{}, several(nil), several{nil, nil}, errors.Join(io.EOF, io.EOF), (*api.Errno)(nil), new(api.Errno), &sets{}, &sets{errno: api.ErrDeep, sets: true},
		&falls{1}, &falls{nil}, &falls{io.EOF}, (*falls)(nil), (*around)(nil), &fallsAs{1}, &around{&fallsAs{nil}}, several{&falls{1}, api.ErrDeep}, several{io.EOF, &around{(*falls)(nil)}, api.ErrDeep})
	for i, e := range none {
		for j, f := range []error{e, fault.Wrap(1, e), &around{fault.Wrap(2, e)}, several{e}} {
			var got api.Errno
			if x := aid.Caught(func() { got = fault.Class(f) }); x != nil || got != api.ErrFailed {
				t.Errorf("P12.5: of the one without, number %d, %d: %d; out comes %v", i, j, got, x)
			}
		}
	}
	if n := fault.Class(&sets{is: true}); n != api.OK {
		t.Errorf("P12.5: of one that says it has set the number, and has not: %d", n)
	}
}

func TestFirst(t *testing.T) {
	a, b := &fault.Failed{Code: 1}, &fault.Failed{Code: 1}
	nilLate := error((*fault.Late)(nil))
	for i, row := range []struct {
		l  []error
		at int
		e  error
	}{
		{nil, -1, nil},
		{[]error{}, -1, nil},
		{[]error{nil}, -1, nil},
		{make([]error, 1000), -1, nil},
		{[]error{a}, 0, a},
		{[]error{b, a}, 0, b},
		{[]error{nil, a, b}, 1, a},
		{[]error{nil, b, nil, a}, 1, b},
		{append(make([]error, 1000), a, nil), 1000, a},
		{[]error{nil, nilLate, a}, 1, nilLate},
		{[]error{api.OK, a}, 0, api.OK},
		{[]error{nil, &around{}, a}, 1, nil},
		{[]error{nil, nil, &falls{1}}, 2, nil},
	} {
		before := slices.Clone(row.l)
		if row.e == nil && row.at >= 0 {
			row.e = row.l[row.at]
		}
		if at, e := fault.First(row.l...); at != row.at || e != row.e {
			t.Errorf("P12.6: row %d: %d %v", i, at, e)
		}
		if !slices.Equal(before, row.l) {
			t.Errorf("R5: row %d: the list is changed", i)
		}
	}
	if at, e := fault.First(several{io.EOF}, a); at != 0 || !same(e, several{io.EOF}) {
		t.Errorf("P12.6: of what can't be compared: %d %v", at, e)
	}
	if at, e := fault.First(nil, nil, io.EOF, a); at != 2 || e != io.EOF {
		t.Errorf("P12.6: one by one: %d %v", at, e)
	}
}

func TestNumbers(t *testing.T) {
	at := func(n int, e error) error { return &fault.At{Number: n, Err: e} }
	for i, row := range []struct {
		e    error
		want []int
	}{
		{nil, nil},
		{&fault.Failed{Code: 1}, nil},
		{&fault.Panicked{Value: at(1, io.EOF)}, nil},
		{io.EOF, nil},
		{api.ErrFailed, nil},
		{&around{io.EOF}, nil},
		{several{}, nil},
		{at(4, nil), []int{4}},
		{at(0, io.EOF), []int{0}},
		{at(math.MinInt, at(math.MaxInt, at(-1, nil))), []int{math.MinInt, math.MaxInt, -1}},
		{at(1, at(1, at(1, io.EOF))), []int{1, 1, 1}},
		{at(2, at(1, at(3, &fault.Late{}))), []int{2, 1, 3}},
		{&around{at(1, &around{&around{at(2, &around{io.EOF})}})}, []int{1, 2}},
		{fmt.Errorf("x: %w", at(1, fmt.Errorf("y: %w", at(2, nil)))), []int{1, 2}},
		{errors.Join(at(1, io.EOF), at(2, io.EOF)), []int{1}},
		{several{io.EOF, nil, at(1, several{api.ErrDeep, at(2, nil), at(3, nil)}), at(4, nil)}, []int{1, 2}},
		{several{several{io.EOF}, &around{at(5, nil)}}, []int{5}},
		{(*fault.At)(nil), nil},
		{&around{(*fault.At)(nil)}, nil},
		{at(1, (*fault.At)(nil)), []int{1}},
		{at(1, at(2, &around{(*fault.At)(nil)})), []int{1, 2}},
		{several{(*fault.At)(nil), at(5, nil)}, nil},
		{several{(*fault.Failed)(nil), at(5, nil)}, []int{5}},
		{at(1, several{(*fault.At)(nil), at(5, nil)}), []int{1}},
		{&sets{at: &fault.At{Number: 7, Err: at(8, nil)}, sets: true, is: true}, []int{7, 8}},
		{at(1, &sets{at: &fault.At{Number: 7}, sets: true, is: true}), []int{1, 7}},
		{at(1, &sets{sets: true, is: true}), []int{1}},
		{at(1, &sets{is: true}), []int{1}},
		{at(1, &sets{at: &fault.At{Number: 7}, sets: true}), []int{1}},
		{several{&sets{at: &fault.At{Number: 7}, sets: true}, at(2, nil)}, []int{2}},
		{&falls{1}, nil},
		{(*falls)(nil), nil},
		{&fallsAs{1}, nil},
		{at(1, &falls{nil}), []int{1}},
		{at(1, at(2, &fallsAs{io.EOF})), []int{1, 2}},
		{at(1, (*around)(nil)), []int{1}},
		{at(1, several{at(2, &falls{1}), at(3, nil)}), []int{1, 2}},
		{at(1, several{&falls{1}, at(3, nil)}), []int{1}},
	} {
		var got []int
		if x := aid.Caught(func() { got = fault.Numbers(row.e) }); x != nil || !slices.Equal(got, row.want) {
			t.Errorf("P12.7: row %d: %v, not %v; out comes %v", i, got, row.want, x)
		}
	}
}

// TestNumbersAreNew: the list is nobody else's, its spare room neither.
func TestNumbersAreNew(t *testing.T) {
	e := fault.Wrap(1, fault.Wrap(2, fault.Wrap(3, &fault.Late{Due: 9})))
	a, b := fault.Numbers(e), fault.Numbers(e)
	for i := range a {
		a[i] = -5
	}
	_ = append(a, -5, -5, -5, -5)
	_ = append(a[:cap(a)], -5)
	if !slices.Equal(b, []int{1, 2, 3}) || !slices.Equal(fault.Numbers(e), []int{1, 2, 3}) || e.Error() != "1: 2: 3: late 9" {
		t.Errorf("R5: %v, %v, %q", b, fault.Numbers(e), e)
	}
	within := e.(*fault.At).Err.(*fault.At)
	within.Number = 7
	if !slices.Equal(fault.Numbers(e), []int{1, 7, 3}) {
		t.Errorf("P12.7: what was told of it before is kept: %v", fault.Numbers(e))
	}
}

// TestOneThatLies: an error that says of itself that it has set what it is asked for: the call ends.
func TestOneThatLies(t *testing.T) {
	s := &sets{is: true}
	if l := fault.Numbers(fault.Wrap(1, fault.Wrap(2, s))); !slices.Equal(l, []int{1, 2}) || s.asked != 1 {
		t.Errorf("P12.7: %v, asked %d times", l, s.asked)
	}
}
