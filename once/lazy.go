package once

import (
	"sync"

	"treadle/api"
	"treadle/gate"
)

// Lazy is a value that is built when somebody first asks for it, of goroutines that are free.
type Lazy[T any] struct {
	made  bool // by NewLazy
	once  sync.Once
	build func() T // nil when it has been called
	built bool     // it returned
	value T
}

// NewLazy: a value that build builds.
func NewLazy[T any](build func() T) *Lazy[T] {
	if build == nil {
		return nil
	}
	return &Lazy[T]{made: true, build: build}
}

// Get: the value. The first one who asks builds it.
func (l *Lazy[T]) Get() (v T, e api.Errno) {
	if l == nil || !l.made {
		return v, api.ErrNil
	}
	l.once.Do(l.fill)
	if !l.built {
		return v, api.ErrFell
	}
	return l.value, api.OK
}

// fill builds the value. What a build panics with goes no further, but for the gate's own panic, which is handed on.
func (l *Lazy[T]) fill() {
	defer func() {
		if x := recover(); gate.Is(x) {
			panic(x)
		}
	}()
	build := l.build
	l.build = nil // what it holds on to is not needed any more
	l.value = build()
	l.built = true
}
