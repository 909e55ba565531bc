package aid

import (
	"sync"
	"sync/atomic"
)

// tries: so often a hand tries at once what it is refused, ahead of sleeping: it is to meet the others in the midst of what they do, and they it.
const tries = 300

// The sides of a yard.
const (
	putters = iota
	takers
)

// yard is where hands of two sides try what they may be refused till the other side has done something. Who is refused too often sleeps there till another one has. (As long as nobody sleeps no side reads what the other one writes here: else the race detector would take that for an order between them.)
type yard struct {
	did    [2]atomic.Int64 // how often those of each side did something
	asleep atomic.Int64    // how many sleep; while nobody does, who does something takes no lock
	lock   sync.Mutex      // of the rest
	here   int64           // how many have not left
	bell   chan int        // is closed to wake those who sleep
	vain   bool            // all who are there sleep: nobody will ever do anything
}

// newYard: for so many hands.
func newYard(hands int) *yard { return &yard{here: int64(hands), bell: make(chan int)} }

// does f for a hand of that side, trying it till it does something: whether it does; not, where nobody is left who would let it.
func (y *yard) does(side int, f func() bool) bool {
	try := func() bool {
		is := f()
		if is {
			y.wakes(side)
		}
		return is
	}
	for {
		for range tries {
			if try() {
				return true
			}
		}
		others := &y.did[1-side]
		did := others.Load() // ahead of trying: what is done behind that may let it
		if try() {
			return true
		}
		if !y.sleeps(others, did) {
			return false
		}
	}
}

// wakes those who sleep, as somebody of that side did something.
func (y *yard) wakes(side int) {
	y.did[side].Add(1)
	if y.asleep.Load() > 0 {
		y.lock.Lock()
		defer y.lock.Unlock()
		y.rings()
	}
}

// sleeps till somebody does something, if the others did so often and not more: whether there is one who may.
func (y *yard) sleeps(others *atomic.Int64, did int64) bool {
	y.lock.Lock()
	asleep := y.asleep.Add(1) // ahead of looking: what the look does not see finds somebody asleep
	if others.Load() != did {
		y.asleep.Add(-1)
		y.lock.Unlock()
		return true
	}
	bell := y.bell
	if asleep == y.here {
		y.vain = true
		y.rings()
	}
	y.lock.Unlock()
	<-bell
	return !y.vain
}

// leaves: a hand tries nothing any more.
func (y *yard) leaves() {
	y.lock.Lock()
	defer y.lock.Unlock()
	y.here--
	if y.asleep.Load() == y.here {
		y.vain = true
		y.rings()
	}
}

// rings wakes those who sleep.
func (y *yard) rings() {
	close(y.bell)
	y.bell = make(chan int)
	y.asleep.Store(0)
}
