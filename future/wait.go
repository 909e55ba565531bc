package future

import "treadle/gate"

// function: what is called with what a future comes to.
type function = func(t *gate.Thread, v int64, err error)

// wait: of a function, for its future to be filled.
type wait struct{ call function }

// taken takes the functions of a row out of it: a list keeps its row when it is closed, and what is called but once, or never where one ahead of it does not come back, is not to be kept with it.
func taken(row []*wait) []function {
	l := make([]function, len(row))
	for i, w := range row {
		l[i], w.call = w.call, nil
	}
	return l
}
