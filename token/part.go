package token

import "treadle/gate"

// part of a token's list: a child, or else a function.
type part struct {
	child *Token
	call  func(t *gate.Thread, reason int64)
}

// cancel lets the part know that its token is cancelled.
func (p part) cancel(t *gate.Thread, reason int64) {
	if p.child != nil {
		p.child.Cancel(t, reason)
		return
	}
	p.call(t, reason)
}

// taken takes the parts of a row out of it: a list keeps its row when it is closed, and what is called but once, or never where one ahead of it does not come back, is not to be kept with it.
func taken(row []*part) []part {
	l := make([]part, len(row))
	for i, p := range row {
		l[i], *p = *p, part{}
	}
	return l
}
