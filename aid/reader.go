package aid

import (
	"slices"

	"treadle/api"
)

// Record is a run's, which is held against the steps of calls: W1. The steps of each thread are gone through by Thread, each access being a call of its Steps; then Ends holds the cells' values against one another.
type Record struct {
	report api.Report
	cells  []int // of each entry that was read: which cell, as the steps name it
	read   []bool
	faults []string
}

// Of: the record of a run.
func Of(r api.Report) *Record {
	return &Record{report: r, cells: make([]int, len(r.Log)), read: make([]bool, len(r.Log))}
}

// Steps: of one thread, along what the record has of it.
type Steps struct {
	of     *Record
	thread int
	at     int // the place in the log behind the thread's last entry that was read, or one of others behind that
	ended  bool
}

// isOut: the record has no more of the thread.
type isOut struct{}

// Thread goes through the steps of a thread, as far as the record has them: whether it has them all.
func (r *Record) Thread(thread int, steps func(s *Steps)) (whole bool) {
	s := &Steps{of: r, thread: thread}
	defer func() {
		x := recover()
		if x != nil && x != any(isOut{}) {
			panic(x)
		}
		if s.next() && !s.ended {
			r.fault("too much", r.report.Log[s.at])
		}
		if whole && len(s.left()) > 0 {
			r.fault("left, at its end", s.left()[0])
		}
	}()
	steps(s)
	return true
}

// Load, Store, Cas, Add, Swap and Park: the thread's next access is this one, of the cell that the steps name so.
func (s *Steps) Load(cell int) int64         { return s.access(cell, api.OpLoad, 0, 0).Was }
func (s *Steps) Store(cell int, v int64)     { s.access(cell, api.OpStore, v, 0) }
func (s *Steps) Add(cell int, d int64) int64 { return s.access(cell, api.OpAdd, d, 0).Now }
func (s *Steps) Swap(cell int, v int64) int64 {
	return s.access(cell, api.OpSwap, v, 0).Was
}
func (s *Steps) Park(cell int, v int64) int64 { return s.access(cell, api.OpPark, v, 0).Was }
func (s *Steps) Cas(cell int, old, next int64) bool {
	return s.access(cell, api.OpCas, old, next).Ok
}

// Span: the places in a log of a call's first and last entry. Where it has not ended there, the last is behind the log; where it has not begun, the first, too.
type Span struct{ First, Last int }

// Span goes through the steps of one call, and tells where they are: ahead of their end, as they may be left there.
func (s *Steps) Span(at *Span, steps func()) {
	s.next()
	*at = Span{s.at, len(s.of.report.Log)}
	steps()
	at.Last = s.at - 1
}

// access reads one entry; or, behind the last one, where the thread is left.
func (s *Steps) access(cell int, op int8, arg, next int64) api.Access {
	r := s.of
	want := api.Access{Thread: s.thread, Op: op, Arg: arg, New: next}
	if !s.next() {
		if l := s.left(); len(l) != 1 || !asks(l[0], want) {
			r.fault("it should be left", want)
		}
		panic(isOut{})
	}
	a := r.report.Log[s.at]
	if !asks(a, want) || !does(a) {
		r.fault("the step is", want)
		r.fault("the record has", a)
		s.ended = true
		panic(isOut{})
	}
	r.cells[s.at], r.read[s.at] = cell, true
	s.at++
	return a
}

// next goes to the thread's next entry, if there is one.
func (s *Steps) next() bool {
	for s.at < len(s.of.report.Log) && s.of.report.Log[s.at].Thread != s.thread {
		s.at++
	}
	return s.at < len(s.of.report.Log)
}

// left: where the thread stands at the end of the run: one access, or none.
func (s *Steps) left() []api.Access {
	for _, a := range s.of.report.Left {
		if a.Thread == s.thread {
			return []api.Access{a}
		}
	}
	return nil
}

// asks: whether the access is the one that is wanted.
func asks(a, want api.Access) bool {
	return a.Thread == want.Thread && a.Op == want.Op && a.Arg == want.Arg && a.New == want.New
}

// does: whether what an entry says of its value is what its access does.
func does(a api.Access) bool {
	now, ok := a.Was, false
	switch a.Op {
	case api.OpStore, api.OpSwap:
		now = a.Arg
	case api.OpAdd:
		now = a.Was + a.Arg
	case api.OpCas:
		if ok = a.Was == a.Arg; ok {
			now = a.New
		}
	case api.OpPark:
		if a.Was == a.Arg {
			return false
		}
	}
	return a.Now == now && a.Ok == ok
}

// Ends: what the cells hold at the end of the run, that held these ahead of it. Each entry is to have been read.
func (r *Record) Ends(held map[int]int64) map[int]int64 {
	ends := map[int]int64{}
	for cell, v := range held {
		ends[cell] = v
	}
	numbers := map[int]int{}
	for i, a := range r.report.Log {
		cell := r.cells[i]
		if _, met := numbers[cell]; !met {
			numbers[cell] = len(numbers)
		}
		if !r.read[i] || a.Cell != numbers[cell] || a.Was != ends[cell] || i >= len(r.report.Went) || a.Thread != r.report.Went[i] {
			r.fault("no such cell, value, or thread", a)
		}
		ends[cell] = a.Now
	}
	for _, a := range r.report.Left {
		if a.Was != a.Now || r.report.End == api.Dead && (a.Op != api.OpPark || a.Was != a.Arg) {
			r.fault("left", a)
		}
	}
	return ends
}

func (r *Record) fault(what string, a api.Access) { r.faults = append(r.faults, what+": "+Text(a)) }

// Faults: what was found.
func (r *Record) Faults() []string { return slices.Clone(r.faults) }

// Same: whether two reports tell the same.
func Same(a, b api.Report) bool {
	return a.End == b.End && a.Turns == b.Turns && slices.Equal(a.Log, b.Log) && slices.Equal(a.Went, b.Went) &&
		slices.Equal(a.Ready, b.Ready) && slices.Equal(a.Left, b.Left) && slices.Equal(a.Fell, b.Fell)
}
