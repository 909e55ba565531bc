package aid

import (
	"slices"
	"strconv"

	"treadle/api"
	"treadle/gate"
)

// Scripts are threads that make calls, one behind another. C says a call, A what it answers.
type Scripts[C any, A comparable] struct {
	Calls [][]C                       // of each thread
	Do    func(t *gate.Thread, c C) A // makes a call
	Steps func(s *Steps, c C) A       // goes through the steps of a call along a record: what it is to answer
	Got   [][]A                       // what each thread was answered so far
}

// Bodies: of the threads.
func (l *Scripts[C, A]) Bodies() []Body {
	l.Got = make([][]A, len(l.Calls))
	var bodies []Body
	for i, calls := range l.Calls {
		bodies = append(bodies, func(t *gate.Thread) {
			for _, c := range calls {
				l.Got[i] = append(l.Got[i], l.Do(t, c))
			}
		})
	}
	return bodies
}

// Ends: what the cells hold at the end of the run of the bodies, that held these ahead of it; and what was found in its report and in the answers, held against the steps.
func (l *Scripts[C, A]) Ends(r api.Report, held map[int]int64) (map[int]int64, []string) {
	of := Of(r)
	var faults []string
	for i, calls := range l.Calls {
		var got []A
		of.Thread(i, func(s *Steps) {
			for _, c := range calls {
				got = append(got, l.Steps(s, c))
			}
		})
		if !slices.Equal(got, l.Got[i]) {
			faults = append(faults, "answers of the thread "+strconv.Itoa(i))
		}
	}
	ends := of.Ends(held)
	return ends, append(faults, of.Faults()...)
}
