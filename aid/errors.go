package aid

import (
	"treadle/api"
	"treadle/fault"
)

// Own: an error of no chapter.
type Own struct{ Name string }

func (o *Own) Error() string { return o.Name }

// Awkward: an error that can't be held against another by ==, and panics when it is asked for its text.
type Awkward []error

func (a Awkward) Error() string { panic("asked") }

// Errors: some of all kinds, nil pointers and those that say OK among them; each can be held against another by ==.
func Errors() []error {
	return []error{
		&Own{"a"}, (*Own)(nil), &fault.Failed{Code: 1}, &fault.Cancelled{Reason: 0}, &fault.Late{Due: 1}, &fault.Panicked{Value: 1}, fault.Wrap(3, &Own{"b"}), fault.Wrap(1, fault.Wrap(2, &fault.Late{})), &fault.At{},
		(*fault.Failed)(nil), (*fault.Panicked)(nil), (*fault.At)(nil), api.ErrNil, api.ErrFull, api.OK, api.Errno(-1),
	}
}

// Fall: something that panics. With: what with; nil, if the machine says it.
type Fall struct {
	Do   func()
	With any
}

// Falls: some of all kinds.
func Falls() map[string]Fall {
	nought, cancelled := 0, &fault.Cancelled{Reason: 3}
	var m map[int]int
	panics := func(x any) Fall { return Fall{func() { panic(x) }, x} }
	return map[string]Fall{
		"a number": panics(int64(1)), "a text": panics("x"), "false": panics(false), "an array": panics([2]int{1, 2}), "an error": panics(&Own{"a"}), "an errno": panics(api.ErrCancelled), "cancelled": panics(cancelled), "not by its pointer": panics(*cancelled),
		"nil": panics(nil), "a division by nought": {func() { nought = 1 / nought }, nil}, "a nil map": {func() { m[1] = 2 }, nil},
		"behind its end":    {func() { defer panic("x") }, "x"},
		"in place of one":   {func() { defer panic("x"); panic("y") }, "x"},
		"one that it knows": {func() { defer func() { panic(recover()) }(); panic("x") }, "x"},
	}
}
