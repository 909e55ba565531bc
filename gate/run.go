package gate

import (
	"slices"
	"sync"
	"sync/atomic"

	"treadle/api"
)

// apart: the run did not end: the thread that was to go was none that is ready.
const apart int8 = 0

// run: threads, of which one moves at a time. While a thread moves, the run waits; so they need no lock.
type run struct {
	threads []*Thread
	cells   map[*atomic.Int64]int // their numbers, of those that were met
	log     []api.Access
	went    []int
	ready   []int // how many were ready, turn by turn
	all     sync.WaitGroup
}

// begun: a run whose bodies stand at their first accesses, or have ended.
func begun(bodies []func(t *Thread)) *run {
	r := &run{cells: map[*atomic.Int64]int{}}
	for _, body := range slices.Clone(bodies) { // a body may write to the caller's list
		r.begin(body)
	}
	return r
}

// begin begins one more thread, and answers when it stands or has ended.
func (r *run) begin(body func(t *Thread)) {
	t := &Thread{run: r, number: len(r.threads), stands: make(chan asked), goes: make(chan api.Access)}
	r.threads = append(r.threads, t)
	r.all.Add(1)
	go r.carry(t, body)
	t.at = <-t.stands
}

// carry is the goroutine of a thread.
func (r *run) carry(t *Thread, body func(t *Thread)) {
	defer r.all.Done()
	defer func() {
		t.fell = recover() != nil // whoever is stopped has been told of as left by now
		t.run = nil
		close(t.stands)
	}()
	if body != nil {
		body(t)
	}
}

// play goes on turn by turn, and tells how the run ended. choose is asked who goes, after those who went, of those who are ready, rising; below 0: the run is apart.
func (r *run) play(most int, choose func(went, ready []int) int) int8 {
	var ready []int
	for {
		var living int
		living, ready = r.look(ready[:0])
		switch {
		case living == 0:
			return api.Over
		case len(ready) == 0:
			return api.Dead
		case len(r.went) >= most:
			return api.Cut
		}
		n := choose(r.went, ready)
		if n < 0 {
			return apart
		}
		r.went = append(r.went, n)
		r.ready = append(r.ready, len(ready))
		r.turn(r.threads[n])
	}
}

// look: how many threads have not ended; and those of them that are ready, laid into the list, rising.
func (r *run) look(ready []int) (int, []int) {
	living := 0
	for _, t := range r.threads {
		if t.Live() {
			living++
			if t.at.can() {
				ready = append(ready, t.number)
			}
		}
	}
	return living, ready
}

// turn: the access of one thread is done, and it goes on.
func (r *run) turn(t *Thread) {
	var done api.Access
	if t.at.op == api.OpGo {
		done = r.another(t)
	} else {
		done = r.access(t)
	}
	t.goes <- done
	t.at = <-t.stands
}

// another does a Go. Its entry comes ahead of what the new thread puts into the log.
func (r *run) another(t *Thread) api.Access {
	done := t.at.entry(t.number)
	done.Now = -1
	room := len(r.threads) < api.MaxThreads
	if room {
		done.Now = int64(len(r.threads))
	}
	r.log = append(r.log, done)
	if room {
		r.begin(t.at.body)
	}
	return done
}

// access does a Step.
func (r *run) access(t *Thread) api.Access {
	cell, met := r.cells[t.at.cell]
	if !met {
		cell = len(r.cells)
		r.cells[t.at.cell] = cell
	}
	done := t.at.entry(t.number)
	done.Cell = cell
	done.Was, done.Now, done.Ok = t.at.change()
	r.log = append(r.log, done)
	return done
}

// finish stops what has not ended, and tells how all stood ahead of that.
func (r *run) finish(end int8) api.Report {
	told := r.told(end)
	r.stop()
	return told
}

// told: the report of a run that has ended so; nothing of one that is apart.
func (r *run) told(end int8) api.Report {
	if end == apart {
		return api.Report{}
	}
	told := api.Report{End: end, Turns: len(r.went), Log: r.log, Went: r.went, Ready: r.ready}
	for _, t := range r.threads {
		if t.Live() {
			told.Left = append(told.Left, r.left(t))
		} else if t.fell {
			told.Fell = append(told.Fell, t.number)
		}
	}
	return told
}

// left: the access at which a thread stands when the run ends.
func (r *run) left(t *Thread) api.Access {
	e := t.at.entry(t.number)
	if t.at.cell == nil {
		return e
	}
	if cell, met := r.cells[t.at.cell]; met {
		e.Cell = cell
	}
	e.Was = t.at.cell.Load()
	e.Now = e.Was
	return e
}

// stop ends the threads that have not ended, one by one, and joins all goroutines.
func (r *run) stop() {
	for _, t := range r.threads {
		if t.Live() {
			close(t.goes)
			t.at = <-t.stands // nothing, so that whoever keeps the thread keeps no cell
		}
	}
	r.all.Wait()
}

// picked: who goes, of those who are ready: as the picks say, or, behind them, the next one after him who went last.
func picked(picks, went, ready []int) int {
	if k := len(went); k < len(picks) {
		p := picks[k] % len(ready)
		if p < 0 {
			p += len(ready)
		}
		return ready[p]
	}
	last := -1
	if len(went) > 0 {
		last = went[len(went)-1]
	}
	i, _ := slices.BinarySearch(ready, last+1)
	return ready[i%len(ready)]
}

// among: n, if it is one of those who are ready; else -1.
func among(n int, ready []int) int {
	if _, found := slices.BinarySearch(ready, n); !found {
		return -1
	}
	return n
}
