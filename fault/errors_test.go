package fault_test

import (
	"errors"
	"fmt"
	"io"
	"math"
	"strings"
	"testing"

	"treadle/aid"
	"treadle/api"
	"treadle/fault"
)

// TestTexts: what each of the errors tells, and what it wraps.
func TestTexts(t *testing.T) {
	_, own := aid.Stopped()
	for _, row := range []struct {
		e    error
		text string
		in   error
	}{
		{&fault.Failed{}, "failed 0", api.ErrFailed},
		{&fault.Failed{Code: -7}, "failed -7", api.ErrFailed},
		{&fault.Failed{Code: 10}, "failed 10", api.ErrFailed},
		{&fault.Failed{Code: math.MinInt64}, "failed -9223372036854775808", api.ErrFailed},
		{&fault.Failed{Code: math.MaxInt64}, "failed 9223372036854775807", api.ErrFailed},
		{&fault.Cancelled{}, "cancelled 0", api.ErrCancelled},
		{&fault.Cancelled{Reason: 5}, "cancelled 5", api.ErrCancelled},
		{&fault.Cancelled{Reason: -1}, "cancelled -1", api.ErrCancelled},
		{&fault.Cancelled{Reason: math.MinInt64}, "cancelled -9223372036854775808", api.ErrCancelled},
		{&fault.Late{}, "late 0", api.ErrTime},
		{&fault.Late{Due: 9}, "late 9", api.ErrTime},
		{&fault.Late{Due: -90}, "late -90", api.ErrTime},
		{&fault.Late{Due: math.MinInt64}, "late -9223372036854775808", api.ErrTime},
		{&fault.Late{Due: api.MaxTime}, "late 4611686018427387904", api.ErrTime},
		{&fault.Panicked{}, "panic", api.ErrPanic},
		{&fault.Panicked{Value: 7}, "panic", api.ErrPanic},
		{&fault.Panicked{Value: "x"}, "panic", api.ErrPanic},
		{&fault.Panicked{Value: errors.New("x")}, "panic", api.ErrPanic},
		{&fault.Panicked{Value: api.ErrFailed}, "panic", api.ErrPanic},
		{&fault.Panicked{Value: &fault.Failed{Code: 1}}, "panic", api.ErrPanic},
		{&fault.Panicked{Value: &fault.Panicked{Value: 1}}, "panic", api.ErrPanic},
		{&fault.Panicked{Value: (*fault.Failed)(nil)}, "panic", api.ErrPanic},
		{&fault.Panicked{Value: []int{1}}, "panic", api.ErrPanic},
		{&fault.Panicked{Value: own}, "panic", api.ErrPanic},
		{(*fault.Failed)(nil), "", nil},
		{(*fault.Cancelled)(nil), "", nil},
		{(*fault.Late)(nil), "", nil},
		{(*fault.Panicked)(nil), "", nil},
		{(*fault.At)(nil), "", nil},
		{&fault.At{}, "0: ", nil},
		{&fault.At{Number: 4}, "4: ", nil},
		{&fault.At{Number: -4}, "-4: ", nil},
		{&fault.At{Number: 4, Err: io.EOF}, "4: EOF", io.EOF},
		{&fault.At{Number: math.MinInt, Err: api.ErrNone}, "-9223372036854775808: error 25", api.ErrNone},
		{&fault.At{Number: 1, Err: plain("")}, "1: ", plain("")},
		{&fault.At{Number: 1, Err: plain("2: x")}, "1: 2: x", plain("2: x")},
		{&fault.At{Number: 1, Err: several{io.EOF, nil}}, "1: several of 2", several{io.EOF, nil}},
	} {
		if row.e.Error() != row.text {
			t.Errorf("P12.1: %#v tells %q, not %q", row.e, row.e.Error(), row.text)
		}
		if in := errors.Unwrap(row.e); !same(in, row.in) {
			t.Errorf("P12.1: in %#v is %v, not %v", row.e, in, row.in)
		}
	}
}

// TestNumbersAreTold: whatever the number.
func TestNumbersAreTold(t *testing.T) {
	for _, n := range aid.Values() {
		tens := fmt.Sprint(n)
		for _, row := range []struct {
			e    error
			text string
		}{
			{&fault.Failed{Code: n}, "failed " + tens},
			{&fault.Cancelled{Reason: n}, "cancelled " + tens},
			{&fault.Late{Due: n}, "late " + tens},
			{&fault.At{Number: int(n), Err: &fault.Late{Due: n}}, tens + ": late " + tens},
		} {
			if row.e.Error() != row.text {
				t.Errorf("P12.1: %q, not %q", row.e.Error(), row.text)
			}
		}
	}
}

// TestErrorsByPointersAlone: what is no pointer is no error.
func TestErrorsByPointersAlone(t *testing.T) {
	for _, x := range []any{fault.Failed{}, fault.Cancelled{}, fault.Late{}, fault.Panicked{}, fault.At{}} {
		if _, is := x.(error); is {
			t.Errorf("the errors: %T is one", x)
		}
	}
}

// TestAtWithin: an At in another, directly and not, with nothing in it, with nil pointers.
func TestAtWithin(t *testing.T) {
	late := &fault.Late{Due: 9}
	for text, e := range map[string]error{
		"1: 2: late 9":          &fault.At{Number: 1, Err: &fault.At{Number: 2, Err: late}},
		"1: 2: 3: late 9":       &fault.At{Number: 1, Err: &fault.At{Number: 2, Err: &fault.At{Number: 3, Err: late}}},
		"1: 1: 1: ":             &fault.At{Number: 1, Err: &fault.At{Number: 1, Err: &fault.At{Number: 1}}},
		"-1: 0: ":               &fault.At{Number: -1, Err: &fault.At{}},
		"1: around (2: late 9)": &fault.At{Number: 1, Err: &around{&fault.At{Number: 2, Err: late}}},
		"1: around (2: )":       &fault.At{Number: 1, Err: &around{&fault.At{Number: 2}}},
		"1: 2: ":                &fault.At{Number: 1, Err: &fault.At{Number: 2, Err: (*fault.At)(nil)}},
		"3: ":                   &fault.At{Number: 3, Err: (*fault.At)(nil)},
		"5: 6: ":                &fault.At{Number: 5, Err: &fault.At{Number: 6, Err: (*fault.Panicked)(nil)}},
		"7: several of 1":       &fault.At{Number: 7, Err: several{&fault.At{Number: 2, Err: late}}},
		"8: late 9\nlate 9":     &fault.At{Number: 8, Err: errors.Join(late, late)},
		"9: sets":               &fault.At{Number: 9, Err: &sets{at: &fault.At{Number: 2, Err: late}, sets: true, is: true}},
	} {
		if e.Error() != text {
			t.Errorf("P12.1: %q, not %q", e.Error(), text)
		}
	}
	for _, none := range nils() {
		at := &fault.At{Number: 3, Err: none}
		if at.Error() != "3: " || at.Unwrap() != none {
			t.Errorf("P12.1: of a nil %T: %q, %v", none, at.Error(), at.Unwrap())
		}
	}
}

// TestOneAsksNobodyElse: what an At tells is what its Err tells: nothing else is asked of that.
func TestOneAsksNobodyElse(t *testing.T) {
	s := &sets{sets: true, is: true, at: &fault.At{Number: 5}}
	at := &fault.At{Number: 1, Err: s}
	if at.Error() != "1: sets" || at.Unwrap() != error(s) || s.asked != 0 {
		t.Errorf("P12.1: %q, %v, asked %d times", at.Error(), at.Unwrap(), s.asked)
	}
}

// TestFallsAsItTells: an error from elsewhere that panics when it is asked what it tells has told nothing.
func TestFallsAsItTells(t *testing.T) {
	for what, e := range map[string]error{
		"a text": &falls{"x"}, "an error": &falls{io.EOF}, "nil": &falls{nil}, "no pointer": (*falls)(nil), "no number": (*api.Errno)(nil), "nothing within": &around{}, "as": &fallsAs{1},
	} {
		at := &fault.At{Number: 1, Err: &fault.At{Number: 2, Err: e}}
		var text string
		if x := aid.Caught(func() { text = at.Error() }); x != nil || text != "1: 2: " {
			t.Errorf("R1: of one that falls, %s: %q, out comes %v", what, text, x)
		}
	}
}

// TestTelling: it changes nothing, and tells the same again.
func TestTelling(t *testing.T) {
	late := &fault.Late{Due: 9}
	within := &fault.At{Number: 2, Err: late}
	at := &fault.At{Number: 1, Err: within}
	for range 2 {
		if at.Error() != "1: 2: late 9" || at.Unwrap() != error(within) || within.Error() != "2: late 9" {
			t.Errorf("P12.1: %q, %q", at, within)
		}
	}
	if *at != (fault.At{Number: 1, Err: within}) || *within != (fault.At{Number: 2, Err: late}) || late.Due != 9 {
		t.Errorf("R5: it changes something: %v, %v, %v", *at, *within, *late)
	}
	at.Number, within.Err = 3, io.EOF
	if at.Error() != "3: 2: EOF" {
		t.Errorf("P12.1: what was told of it before is kept: %q", at)
	}
}

// TestDeep: as many in one another as the document speaks of.
func TestDeep(t *testing.T) {
	const most = 1<<16 - 2
	failed := &fault.Failed{Code: 5}
	e := error(failed)
	for i := range most {
		e = fault.Wrap(most-i, e)
	}
	var want strings.Builder
	for i := range most {
		fmt.Fprintf(&want, "%d: ", i+1)
	}
	want.WriteString("failed 5")
	if e.Error() != want.String() {
		t.Errorf("P12.1: a text of %d bytes, not of %d", len(e.Error()), want.Len())
	}
	l := fault.Numbers(e)
	for i, n := range l {
		if n != i+1 {
			t.Fatalf("P12.7: the number at %d is %d", i, n)
		}
	}
	if len(l) != most || fault.Class(e) != api.ErrFailed {
		t.Errorf("P12.5, P12.7: %d numbers, class %d", len(l), fault.Class(e))
	}
	for range 500 {
		e = fault.Wrap(1, &around{e})
	}
	if l := fault.Numbers(e); len(l) != most+500 || fault.Class(e) != api.ErrFailed {
		t.Errorf("P12.5, P12.7: with others between them: %d numbers, class %d", len(l), fault.Class(e))
	}
}
