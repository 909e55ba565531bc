package future

import "treadle/gate"

// Promise: who has claimed a future fills it.
type Promise struct {
	future *Future // nil when it is filled, or of a promise that no Claim made
}

// Fill gives the future what it comes to, and calls the functions that wait for that, if the promise is not filled yet: whether it does.
func (p *Promise) Fill(t *gate.Thread, v int64, err error) bool {
	if p == nil || p.future == nil {
		return false
	}
	x := p.future
	p.spend(t, v, err)
	x.tell(t)
	return true
}

// spend fills the future. Whoever finds that filled finds the promise so, too; but where the thread is stopped at the access neither is.
func (p *Promise) spend(t *gate.Thread, v int64, err error) {
	x, filled := p.future, false
	p.future = nil
	defer func() {
		if !filled {
			p.future = x
		}
	}()
	x.settle(t, v, err)
	filled = true
}
