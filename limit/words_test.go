package limit_test

import (
	"treadle/api"
	"treadle/clock"
	"treadle/fault"
	"treadle/future"
	"treadle/gate"
	"treadle/token"
)

// The chapter's steps once more, by those calls of the layers below that they name.

var words = kind{wordsWithin, wordsDeadline}

func wordsWithin(t *gate.Thread, c *clock.Clock, f *future.Future, d int64) (*future.Future, api.Errno) {
	switch {
	case c == nil || c == noClock || f == nil || f == noFuture:
		return nil, api.ErrNil
	case d < 0:
		return nil, api.ErrArg
	}
	g := future.New()
	due := later(c.Now(t), d)                            // 1
	x, full := c.Set(t, due, func(ringer *gate.Thread) { // 2
		if p := g.Claim(ringer); p != nil {
			p.Fill(ringer, 0, &fault.Late{Due: due})
		}
	})
	if full == api.ErrFull {
		return nil, api.ErrFull
	}
	full = f.Then(t, func(filler *gate.Thread, v int64, err error) { // 3
		if p := g.Claim(filler); p != nil {
			p.Fill(filler, v, err)
			c.Stop(filler, x)
		}
	})
	if full == api.ErrFull {
		c.Stop(t, x) // 4
		return nil, api.ErrFull
	}
	return g, api.OK
}

func wordsDeadline(t *gate.Thread, c *clock.Clock, k *token.Token, d int64) (*token.Token, api.Errno) {
	switch {
	case c == nil || c == noClock || k == nil || k == noToken:
		return nil, api.ErrNil
	case d < 0:
		return nil, api.ErrArg
	}
	x, refused := k.Child(t) // 1
	if refused != api.OK {
		return nil, refused
	}
	due := later(c.Now(t), d)                                                   // 2
	y, full := c.Set(t, due, func(ringer *gate.Thread) { x.Cancel(ringer, 1) }) // 3
	if full == api.ErrFull {
		return nil, api.ErrFull
	}
	x.OnCancel(t, func(canceller *gate.Thread, _ int64) { c.Stop(canceller, y) }) // 4
	return x, api.OK
}
