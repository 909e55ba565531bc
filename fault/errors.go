package fault

import (
	"strconv"

	"treadle/api"
)

// Failed: a failure that a task tells.
type Failed struct{ Code int64 }

// Error: its text.
func (f *Failed) Error() string {
	if f == nil {
		return ""
	}
	return "failed " + strconv.FormatInt(f.Code, 10)
}

// Unwrap: what errors.Is finds in it.
func (f *Failed) Unwrap() error {
	if f == nil {
		return nil
	}
	return api.ErrFailed
}

// Cancelled: by a token's reason.
type Cancelled struct{ Reason int64 }

// Error: its text.
func (c *Cancelled) Error() string {
	if c == nil {
		return ""
	}
	return "cancelled " + strconv.FormatInt(c.Reason, 10)
}

// Unwrap: what errors.Is finds in it.
func (c *Cancelled) Unwrap() error {
	if c == nil {
		return nil
	}
	return api.ErrCancelled
}

// Late: not in time.
type Late struct{ Due int64 }

// Error: its text.
func (l *Late) Error() string {
	if l == nil {
		return ""
	}
	return "late " + strconv.FormatInt(l.Due, 10)
}

// Unwrap: what errors.Is finds in it.
func (l *Late) Unwrap() error {
	if l == nil {
		return nil
	}
	return api.ErrTime
}

// Panicked: a panic that is carried, and its value.
type Panicked struct{ Value any }

// Error: its text. The value is not told: it may be anything.
func (p *Panicked) Error() string {
	if p == nil {
		return ""
	}
	return "panic"
}

// Unwrap: what errors.Is finds in it; never the value, even if that is an error.
func (p *Panicked) Unwrap() error {
	if p == nil {
		return nil
	}
	return api.ErrPanic
}

// At: an error of the thing with a number.
type At struct {
	Number int
	Err    error
}

// Error: its number, and what the error tells. Those that lie right in one another are gone through one by one, as a text for each, made from the next one's, would take long where there are many.
func (a *At) Error() string {
	var s []byte
	for a != nil {
		s = strconv.AppendInt(s, int64(a.Number), 10)
		s = append(s, ": "...)
		within, is := itself(a.Err)
		if !is {
			s = append(s, text(a.Err)...)
		}
		a = within
	}
	return string(s)
}

// Unwrap: the error that has the number.
func (a *At) Unwrap() error {
	if a == nil {
		return nil
	}
	return a.Err
}

// itself: e, if it is an *At, and not one that wraps one.
func itself(e error) (*At, bool) {
	a, is := e.(*At)
	return a, is
}

// text: what an error tells: nothing, if there is none, or if it panics, as one from elsewhere may.
func text(e error) (s string) {
	if e == nil {
		return ""
	}
	Catch(func() (int64, error) {
		s = e.Error()
		return 0, nil
	})
	return s
}
