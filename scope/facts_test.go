package scope_test

import (
	"errors"
	"slices"
	"strconv"

	"treadle/api"
	"treadle/fault"
	"treadle/gate"
	"treadle/token"
)

// What follows, as it is noticed of scopes while calls are made of them.

// fact: what is noticed of a scope.
type fact struct {
	token    *token.Token
	jobs     []*job
	shutting bool // a Close, or a Wait, has begun
	shuts    int  // how many Closes answered true
	waited   bool // a Wait has answered
	told     []error
	faults   []string
}

// job: what is noticed of a task.
type job struct {
	of          *fact
	does        *deed
	number      int // 0: its Go has not answered, or not so
	begun, over int // how often its function was called; how often it has answered, or panicked
	thread      *gate.Thread
}

func (f *fact) fault(is bool, what string) {
	if is {
		f.faults = append(f.faults, what)
	}
}

// begins notices that a Go begins.
func (f *fact) begins(d *deed) *job {
	j := &job{of: f, does: d}
	f.jobs = append(f.jobs, j)
	return j
}

// answers notices what a Go answers.
func (f *fact) answers(j *job, n int, e api.Errno) {
	f.fault((n == 0) != (e != api.OK), "neither a number nor an error, or both")
	f.fault(e == api.ErrClosed && !f.shutting, "it is closed by nobody")
	f.fault(e == api.OK && f.waited, "a task is begun behind a Wait's end")
	f.fault(slices.ContainsFunc(f.jobs, func(x *job) bool { return n != 0 && x.number == n }), "two have one number")
	j.number = n
}

// enters notices that a task's function is called; and that it is left.
func (j *job) enters(t *gate.Thread) (leaves func()) {
	j.begun++
	j.of.fault(j.begun > 1 || j.of.waited, "a function is called twice, or behind a Wait's end")
	return func() {
		j.over++
		j.of.fault(t.Live() && j.thread != nil, "a function has two threads")
		j.thread = t
	}
}

// fails: whether the task fails, if it ends.
func (j *job) fails() bool { return j.does.falls || j.does.e != nil }

// tells: whether an error is the task's own.
func (j *job) tells(e error) bool {
	if !j.does.falls {
		return e == j.does.e
	}
	p, is := e.(*fault.Panicked)
	return is && p != nil && (j.does.with == nil || p.Value == j.does.with)
}

// hears notices what a Wait answers.
func (f *fact) hears(e error) {
	f.told = append(f.told, e)
	if f.token == nil {
		return
	}
	f.waited = true
	failed := 0
	for _, j := range f.jobs {
		if j.number == 0 {
			continue
		}
		f.fault(j.begun != 1 || j.over != 1, "a Wait answers, and the task "+strconv.Itoa(j.number)+" has not ended")
		if j.fails() {
			failed++
		}
	}
	f.fault((e != nil) != (failed > 0), strconv.Itoa(failed)+" have failed, and it is not told so")
	f.fault(e != nil && f.token.Reason(nil) == 0, "one has failed, and the token lives")
	f.fault(e != nil && !f.isOne(e), "it tells an error that is no task's")
	first := f.told[0]
	f.fault((e == nil) != (first == nil) || e != nil && (!slices.Equal(fault.Numbers(e), fault.Numbers(first)) || errors.Unwrap(e) != errors.Unwrap(first)), "two Waits tell unlike things")
}

// isOne: whether it is the error of a task that failed, with its number.
func (f *fact) isOne(e error) bool {
	a, is := e.(*fault.At)
	return is && slices.ContainsFunc(f.jobs, func(j *job) bool {
		return a.Number != 0 && j.number == a.Number && j.fails() && j.tells(a.Err)
	})
}

// follows: what is found that does not follow; nobody else is there. log: the record of the run. bodies: how many threads are no task's.
func (w *world) follows(log []api.Access, bodies int) (faults []string) {
	for i, f := range w.facts {
		f.fault(f.shuts > 1, "two have closed it")
		f.fault(f.token != w.scopes[i].Token(), "it has another token by now")
		for _, j := range f.jobs {
			f.fault(j.number == 0 && j.begun > 0, "one that was refused is called")
		}
		for _, s := range f.faults {
			faults = append(faults, "what follows: the scope "+strconv.Itoa(i)+": "+s)
		}
	}
	return append(faults, amiss(log, bodies)...)
}

// amiss: what is found in the marks: each thread of a task begins with one, has one behind its function, both with its number, and then fails, or is done.
func amiss(log []api.Access, bodies int) (faults []string) {
	marks := map[int][]api.Access{}
	for _, a := range log {
		first := len(marks[a.Thread]) == 0
		if a.Op == api.OpMark {
			marks[a.Thread] = append(marks[a.Thread], a)
		}
		if a.Thread >= bodies && first && a.Op != api.OpMark || a.Thread < bodies && a.Op == api.OpMark {
			faults = append(faults, "W1: the thread "+strconv.Itoa(a.Thread)+" begins, or marks, amiss")
		}
	}
	for thread, l := range marks {
		if l[0].New != 7 || len(l) > 1 && (l[1].New != 8 || l[1].Arg != l[0].Arg) || len(l) > 2 || l[0].Arg < 1 {
			faults = append(faults, "W1: the marks of the thread "+strconv.Itoa(thread)+" are amiss")
		}
	}
	return faults
}
