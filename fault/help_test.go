package fault_test

import (
	"errors"
	"fmt"
	"math"
	"slices"
	"testing"
	"time"

	"treadle/api"
	"treadle/fault"
)

// TestMain: where something goes wrong a search in an error might go round for ever.
func TestMain(m *testing.M) {
	time.AfterFunc(time.Minute, func() { panic("R1: a call does not end") })
	m.Run()
}

// Errors of no chapter.

// plain: one that wraps nothing.
type plain string

func (p plain) Error() string { return string(p) }

// around: one that wraps another.
type around struct{ e error }

func (a *around) Error() string { return "around (" + a.e.Error() + ")" }
func (a *around) Unwrap() error { return a.e }

// several: one that wraps some. Two of them can't be held against each other by ==.
type several []error

func (s several) Error() string   { return fmt.Sprintf("several of %d", len(s)) }
func (s several) Unwrap() []error { return s }

// sets: one whose As sets what it has, and answers as it is told to: it may do the one without the other. It counts how often it is asked, and panics when that is far too often.
type sets struct {
	at    *fault.At
	errno api.Errno
	sets  bool
	is    bool
	asked int
}

func (s *sets) Error() string { return "sets" }

func (s *sets) As(target any) bool {
	if s.asked++; s.asked > 1000 {
		panic("asked again and again")
	}
	switch p := target.(type) {
	case **fault.At:
		if s.sets {
			*p = s.at
		}
	case *api.Errno:
		if s.sets {
			*p = s.errno
		}
	}
	return s.is
}

// falls: one that panics with this, whatever is asked of it; of a nil pointer with what the machine says.
type falls struct{ with any }

func (f *falls) Error() string { panic(f.with) }
func (f *falls) Unwrap() error { panic(f.with) }

// fallsAs: one that sets what it is asked for, and then panics.
type fallsAs struct{ with any }

func (f *fallsAs) Error() string { panic(f.with) }

func (f *fallsAs) As(target any) bool {
	switch p := target.(type) {
	case **fault.At:
		*p = &fault.At{Number: 99}
	case *api.Errno:
		*p = api.ErrDeep
	}
	panic(f.with)
}

// numbers: some at the ends of int, and some about 0.
func numbers() []int {
	return []int{0, 1, -1, 7, 10, -10, 64, math.MaxInt, math.MinInt, math.MaxInt32, math.MinInt32, math.MaxInt32 + 1}
}

// same: whether two errors are one. Those that can't be held against each other are held so by their texts.
func same(a, b error) bool {
	if x, is := a.(several); is {
		y, is := b.(several)
		return is && slices.EqualFunc(x, y, same)
	}
	return a == b
}

// answer: of a Catch.
type answer struct {
	v int64
	e error
}

func catch(f func() (int64, error)) answer {
	v, e := fault.Catch(f)
	return answer{v, e}
}

// answers: a function that answers this.
func answers(v int64, e error) func() (int64, error) {
	return func() (int64, error) { return v, e }
}

// panics: a function that panics with this.
func panics(x any) func() (int64, error) {
	return func() (int64, error) { panic(x) }
}

// carried: the value of a panic that is carried right in e.
func carried(t *testing.T, what string, e error) any {
	t.Helper()
	p, is := e.(*fault.Panicked)
	if !is || p == nil {
		t.Errorf("P12.3: %s: %v carries no panic", what, e)
		return nil
	}
	return p.Value
}

// nils: a nil pointer of each type.
func nils() []error {
	return []error{(*fault.Failed)(nil), (*fault.Cancelled)(nil), (*fault.Late)(nil), (*fault.Panicked)(nil), (*fault.At)(nil)}
}

// found: those of the four numbers that errors.Is finds.
func found(e error) (l []api.Errno) {
	for _, n := range []api.Errno{api.ErrFailed, api.ErrCancelled, api.ErrTime, api.ErrPanic} {
		if errors.Is(e, n) {
			l = append(l, n)
		}
	}
	return l
}
