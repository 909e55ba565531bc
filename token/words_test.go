package token_test

import (
	"slices"
	"strconv"
	"sync/atomic"

	"treadle/api"
	"treadle/gate"
)

// The chapter's steps once more, done by threads on cells of their own, one moving at a time; and what follows from them, as it is looked at between them.

const (
	reasonCell = iota
	lastCell
	headCell
)

// words: a token, by the chapter's words, and those of chapter 9.
type words struct {
	book   *book
	above  *words
	number int
	depth  int
	cells  [3]atomic.Int64
	places [65]placed
	is     int64    // its reason, as the accesses have it
	shut   bool     // its list is closed
	there  bool     // it is in the list of the one above, or was born cancelled
	own    *running // the Cancel of its own that gave it its reason
}

// placed: what belongs to a place: a child or a function, and the place that was put on ahead of it.
type placed struct {
	child *words
	f     *function
	ahead int64
}

// function: of an OnCancel.
type function struct {
	of     *words
	f      func(t *gate.Thread, reason int64)
	ok     bool // its OnCancel has answered so
	called int
}

// running: a Cancel that somebody called.
type running struct {
	of       *words
	reason   int64
	there    []*words // all that lay below, when it began
	answered bool
}

// book: what is noticed of tokens in the course of a run, and what of it is not as it should be.
type book struct {
	tokens    []*words
	functions []*function
	running   map[int][]*running // of each thread, the innermost last
	met       map[string]int
	faults    []string
}

func newBook() *book { return &book{running: map[int][]*running{}, met: map[string]int{}} }

// token: one more.
func (b *book) token(above *words) *words {
	k := &words{book: b, above: above, number: len(b.tokens)}
	if above != nil {
		k.depth = above.depth + 1
	}
	b.tokens = append(b.tokens, k)
	return k
}

func (b *book) fault(is bool, what string, k *words) {
	if is {
		b.faults = append(b.faults, what+": the token "+strconv.Itoa(k.number))
	}
}

// step: an access: what was, what is, and, of a Cas, whether it is done.
func (k *words) step(t *gate.Thread, cell int, op int8, arg, next int64) (was, is int64, ok bool) {
	return t.Step(&k.cells[cell], op, arg, next)
}

func (k *words) load(t *gate.Thread, cell int) int64 {
	was, _, _ := k.step(t, cell, api.OpLoad, 0, 0)
	return was
}

func (k *words) Child(t *gate.Thread) (*words, api.Errno) {
	if k == nil {
		return nil, api.ErrNil
	}
	if k.depth == 64 {
		return nil, api.ErrDeep
	}
	shut := k.shut
	x := k.book.token(k)
	switch e := k.adds(t, placed{child: x}, "Child"); e {
	case api.ErrFull:
		return nil, e
	case api.ErrClosed:
		r := k.load(t, reasonCell)
		x.step(t, reasonCell, api.OpStore, r, 0)
		k.book.fault(r != k.is || r < 1, "one is born without the reason of that above", x)
		x.is, x.there = r, true
		x.step(t, headCell, api.OpSwap, -1, 0)
		x.shut = true
	}
	k.book.fault(shut && (x.is != k.is || !x.shut), "one that is made behind a Cancel does not have its reason", x)
	return x, api.OK
}

func (k *words) OnCancel(t *gate.Thread, f func(t *gate.Thread, reason int64)) api.Errno {
	if k == nil {
		return api.ErrNil
	}
	if f == nil {
		return api.ErrArg
	}
	x := &function{of: k, f: f}
	k.book.functions = append(k.book.functions, x)
	switch e := k.adds(t, placed{f: x}, "OnCancel"); e {
	case api.ErrFull:
		return e
	case api.ErrClosed:
		x.calls(t, k.load(t, reasonCell))
	}
	x.ok = true
	return api.OK
}

// adds: chapter 9's steps of an Add.
func (k *words) adds(t *gate.Thread, x placed, who string) api.Errno {
	met := func(what string) { k.book.met[who+": "+what]++ }
	h := k.load(t, headCell)
	if h == -1 {
		met("of one that is cancelled")
		return api.ErrClosed
	}
	p, _, _ := k.step(t, lastCell, api.OpAdd, 1, 0)
	if p++; p > 64 {
		met("full" + map[bool]string{true: " by then, when it is cancelled"}[k.is != 0])
		return api.ErrFull
	}
	for {
		x.ahead = h
		k.places[p] = x
		if _, _, ok := k.step(t, headCell, api.OpCas, h, p); ok {
			if x.child != nil {
				x.child.there = true
			}
			met("done" + map[bool]string{true: ", of one that is being cancelled"}[k.is != 0])
			return api.OK
		}
		if h = k.load(t, headCell); h == -1 {
			met("cancelled in its midst")
			return api.ErrClosed
		}
		met("forestalled")
	}
}

func (x *function) calls(t *gate.Thread, reason int64) {
	x.called++
	x.of.book.fault(x.called > 1, "a function is called twice", x.of)
	x.of.book.fault(reason != x.of.is || reason < 1, "a function is called with another reason", x.of)
	x.f(t, reason)
}

func (k *words) Cancel(t *gate.Thread, reason int64) bool {
	if k == nil || reason < 1 {
		return false
	}
	c := &running{of: k, reason: reason}
	for _, x := range k.book.tokens {
		if x.there && x.below(k) {
			c.there = append(c.there, x)
		}
	}
	b, n := k.book, t.Number()
	b.running[n] = append(b.running[n], c)
	defer func() { b.running[n] = b.running[n][:len(b.running[n])-1] }()
	if !k.cancels(t, reason) {
		b.met["Cancel: refused"]++
		return false
	}
	c.answered = true
	c.follows(b)
	return true
}

// cancels: the steps of a Cancel.
func (k *words) cancels(t *gate.Thread, reason int64) bool {
	if _, _, ok := k.step(t, reasonCell, api.OpCas, 0, reason); !ok {
		return false
	}
	k.reasoned(t, reason)
	h, _, _ := k.step(t, headCell, api.OpSwap, -1, 0)
	k.book.fault(k.shut || h == -1, "a list is closed twice", k)
	k.shut = true
	var row []placed
	for h != 0 {
		row = append(row, k.places[h])
		h = k.places[h].ahead
	}
	slices.Reverse(row)
	for _, x := range row {
		if x.child == nil {
			x.f.calls(t, reason)
		} else if !x.child.cancels(t, reason) {
			k.book.met["Cancel: a child has a reason"]++
		}
	}
	return true
}

// reasoned: a token is cancelled: by the Cancel of its own, or of one above it, that this thread is at.
func (k *words) reasoned(t *gate.Thread, reason int64) {
	k.book.fault(k.is != 0, "a token has two reasons", k)
	k.is = reason
	l := k.book.running[t.Number()]
	c := l[len(l)-1]
	k.book.fault(c.reason != reason || c.of != k && !k.below(c.of), "it is cancelled by nobody", k)
	if c.of == k {
		k.own = c
	}
}

// follows: when a Cancel has answered true each that lay below has a reason, but what lies below one whose own Cancel has not answered.
func (c *running) follows(b *book) {
	what := "yes"
	b.fault(c.of.own != c || c.of.is != c.reason, "two Cancels are done", c.of)
	for _, x := range c.there {
		goes := slices.ContainsFunc(b.tokens, func(y *words) bool {
			return y.own != nil && !y.own.answered && y.below(c.of) && x.below(y)
		})
		b.fault(x.is == 0 && !goes, "one below lives", x)
		if x.is == 0 {
			what = "yes, while one below still lives"
		}
	}
	b.met["Cancel: "+what]++
}

// below: whether it lies below that one.
func (k *words) below(top *words) bool {
	for x := k.above; x != nil; x = x.above {
		if x == top {
			return true
		}
	}
	return false
}

func (k *words) Reason(t *gate.Thread) int64 {
	if k == nil {
		return 0
	}
	return k.load(t, reasonCell)
}

func (k *words) Wait(t *gate.Thread) int64 {
	if k == nil {
		return 0
	}
	if r := k.load(t, reasonCell); r != 0 {
		k.book.met["Wait: at once"]++
		return r
	}
	k.book.met["Wait: sleeps"]++
	r, _, _ := k.step(t, reasonCell, api.OpPark, 0, 0)
	k.book.met["Wait: woken"]++
	return r
}

// ends: what is to be seen when all threads have ended. whole: and nothing fell.
func (b *book) ends(whole bool) {
	for _, x := range b.functions {
		b.fault(x.called > 0 && x.of.is == 0, "a function of one that lives is called", x.of)
		b.fault(whole && x.ok && x.of.is != 0 && x.called == 0, "a function is not called", x.of)
		b.fault(whole && !x.ok && x.called > 0, "a function that was refused is called", x.of)
	}
	for _, k := range b.tokens {
		b.fault(k.cells[reasonCell].Load() != k.is || whole && k.shut != (k.is != 0), "it is not what it was seen to be", k)
		b.fault(whole && k.there && k.above != nil && k.above.is != 0 && k.is == 0, "one below a cancelled one lives", k)
	}
}
