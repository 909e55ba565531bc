package token_test

import (
	"slices"
	"strconv"
	"time"

	"treadle/aid"
	"treadle/api"
	"treadle/gate"
	"treadle/token"
)

// kind: of tokens: the package's, or those of a test.
type kind[T any] interface {
	comparable
	Child(t *gate.Thread) (T, api.Errno)
	OnCancel(t *gate.Thread, f func(t *gate.Thread, reason int64)) api.Errno
	Cancel(t *gate.Thread, reason int64) bool
	Reason(t *gate.Thread) int64
	Wait(t *gate.Thread) int64
}

// What a call does.
const (
	child = iota
	set
	cancel
	ask
	wait
)

// call: of names the token by its place among those that the caller knows; where nothing is, it is nil. n is the reason of a Cancel, does what the function of an OnCancel does.
type call struct {
	op, of int
	n      int64
	does   *deed
}

func bears(of int) call            { return call{op: child, of: of} }
func sets(of int, d *deed) call    { return call{op: set, of: of, does: d} }
func cancels(of int, n int64) call { return call{op: cancel, of: of, n: n} }
func asks(of int) call             { return call{op: ask, of: of} }
func waits(of int) call            { return call{op: wait, of: of} }

// deed: what a function does: it makes calls, of the tokens that who set it knew then and of those that it makes, and then comes back, or panics with its name.
type deed struct {
	name  string
	calls []call
	falls bool
}

func quiet(name string) *deed                 { return &deed{name: name} }
func busy(name string, calls ...call) *deed   { return &deed{name: name, calls: calls} }
func fallen(name string, calls ...call) *deed { return &deed{name: name, calls: calls, falls: true} }

// String: for the texts of tests that fail.
func (c call) String() string {
	s := []string{"Child", "OnCancel", "Cancel", "Reason", "Wait"}[c.op] + " of " + strconv.Itoa(c.of)
	switch {
	case c.op == cancel:
		s += " with " + strconv.FormatInt(c.n, 10)
	case c.op == set && c.does == nil:
		s += ": none"
	case c.op == set:
		s += ": " + c.does.String()
	}
	return s
}

func (d *deed) String() string {
	s := d.name
	for _, c := range d.calls {
		s += " (" + c.String() + ")"
	}
	if d.falls {
		s += " falls"
	}
	return s
}

// world: tokens of some kind, and what is told of the calls of them: what they are answered, and what is called in them. Of its threads one moves at a time.
type world[T kind[T]] struct {
	all   []T // by their numbers, in the order in which they were answered
	story aid.Story
}

// newWorld: of one token, and of those that calls make which one alone makes ahead of all others.
func newWorld[T kind[T]](root T, t *gate.Thread, first ...call) *world[T] {
	w := &world[T]{all: []T{root}}
	w.makes(t, first...)
	return w
}

// made: by the package.
func made(first ...call) *world[*token.Token] { return newWorld(token.New(), nil, first...) }

// known: the tokens that somebody knows. A child that is answered comes behind them.
type known[T kind[T]] struct{ row []T }

// makes makes the calls, one behind the other, by somebody who knows all tokens: what is told then.
func (w *world[T]) makes(t *gate.Thread, calls ...call) string {
	from := len(w.story)
	k := known[T]{slices.Clone(w.all)}
	for _, c := range calls {
		w.does(t, &k, c)
	}
	return w.story[from:].String()
}

// does makes a call. The panic of a deed is caught; the gate's own is not.
func (w *world[T]) does(t *gate.Thread, k *known[T], c call) {
	defer func() {
		switch x := recover().(type) {
		case nil:
		case string:
			w.story.Tells(t, "fell:"+x)
		default:
			panic(x)
		}
	}()
	var of T
	if c.of >= 0 && c.of < len(k.row) {
		of = k.row[c.of]
	}
	switch c.op {
	case child:
		x, e := of.Child(t)
		w.story.Tells(t, w.bears(k, x, e))
	case set:
		w.story.Tells(t, named(of.OnCancel(t, w.function(k, c.does))))
	case cancel:
		w.story.Tells(t, aid.Yes(of.Cancel(t, c.n)))
	case ask:
		w.story.Tells(t, strconv.FormatInt(of.Reason(t), 10))
	case wait:
		defer inTime()()
		w.story.Tells(t, "woke:"+strconv.FormatInt(of.Wait(t), 10))
	}
}

// inTime: where something goes wrong those who wait might sleep for ever.
func inTime() (stop func() bool) {
	return time.AfterFunc(time.Minute, func() { panic("W3: somebody sleeps on") }).Stop
}

// bears: what is told of a Child's answer.
func (w *world[T]) bears(k *known[T], x T, e api.Errno) string {
	var none T
	switch {
	case (x == none) != (e != api.OK):
		return "neither a token nor an error, or both"
	case e != api.OK:
		return named(e)
	case slices.Contains(w.all, x):
		return "a token that was there"
	}
	w.all, k.row = append(w.all, x), append(k.row, x)
	return "#" + strconv.Itoa(len(w.all)-1)
}

// named: an error, by the chapter's name.
func named(e api.Errno) string {
	switch e {
	case api.OK:
		return "ok"
	case api.ErrArg:
		return "ErrArg"
	case api.ErrNil:
		return "ErrNil"
	case api.ErrFull:
		return "ErrFull"
	case api.ErrDeep:
		return "ErrDeep"
	}
	return e.Error()
}

// function: of a deed that somebody sets; none of none.
func (w *world[T]) function(k *known[T], d *deed) func(t *gate.Thread, reason int64) {
	if d == nil {
		return nil
	}
	row := slices.Clone(k.row)
	return func(t *gate.Thread, reason int64) {
		w.story.Tells(t, d.name+":"+strconv.FormatInt(reason, 10)+"(")
		own := known[T]{slices.Clone(row)}
		for _, c := range d.calls {
			w.does(t, &own, c)
		}
		if d.falls {
			panic(d.name)
		}
		w.story.Tells(t, ")")
	}
}

// bodies: of threads that make these calls, each knowing the tokens that are there by now.
func (w *world[T]) bodies(calls [][]call) (l []func(t *gate.Thread)) {
	for _, mine := range calls {
		k := known[T]{slices.Clone(w.all)}
		l = append(l, func(t *gate.Thread) {
			for _, c := range mine {
				w.does(t, &k, c)
			}
		})
	}
	return l
}

// alone: the record of calls that one thread makes, and what it is told.
func alone[T kind[T]](w *world[T], calls ...call) (api.Report, string) {
	from := len(w.story)
	report := gate.Run(nil, api.MaxTurns, w.bodies([][]call{calls})...)
	return report, w.story[from:].String()
}
