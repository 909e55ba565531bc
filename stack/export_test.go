package stack

// Turn lays tag in the place of both lists' tags, of a stack that is nobody's yet: no test can make as many changes as lead there.
func (s *Stack) Turn(tag int64) {
	for _, l := range []list{s.used, s.free} {
		l.Store(nil, tag<<nodeBits+l.head(nil).node())
	}
}
