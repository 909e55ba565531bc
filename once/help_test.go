package once_test

import (
	"treadle/aid"
	"treadle/api"
	"treadle/gate"
	"treadle/once"
)

type body = aid.Body

// answer: what a call answered, or what it panicked with.
type answer struct {
	ok   bool
	e    api.Errno
	fell any
}

// do calls Do, and catches what comes out, but for the gate's own panic.
func do(t *gate.Thread, o *once.Once, f body) (a answer) {
	defer func() {
		if a.fell = recover(); gate.Is(a.fell) {
			panic(a.fell)
		}
	}()
	a.ok, a.e = o.Do(t, f)
	return a
}

func isDone(t *gate.Thread, o *once.Once) (a answer) {
	a.ok, a.e = o.Done(t)
	return a
}

// falls: a function that panics with this.
func falls(x any) body { return func(t *gate.Thread) { panic(x) } }

func nothing(*gate.Thread) {}

// isUnasked: a function that is not to be called.
func isUnasked(fail func(...any)) body { return func(*gate.Thread) { fail("P3.1: f is called") } }

// fallen: a Once whose f panicked.
func fallen() *once.Once {
	o := once.New()
	do(nil, o, falls("x"))
	return o
}

// finished: a Once that is done.
func finished() *once.Once {
	o := once.New()
	do(nil, o, nothing)
	return o
}
