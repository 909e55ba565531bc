package aid

// Deque is the steps of a deque's calls (chapter 7), as they are gone through along a record: of so many places, whose cells the steps name from First on: top, bottom, and the slots of the places.
type Deque struct{ First, Places int }

// Cells: how many cells it has.
func (d Deque) Cells() int { return 2 + d.Places }

// Held: what its cells hold, beside those that are there, when from was its first position, and these values were pushed, and nothing else was done.
func (d Deque) Held(held map[int]int64, from int64, values ...int64) {
	held[d.top()], held[d.bottom()] = from, from+int64(len(values))
	for p := range int64(d.Places) {
		held[d.slot(p)] = 0
	}
	for i, v := range values {
		held[d.slot(from+int64(i))] = v
	}
}

func (d Deque) top() int    { return d.First }
func (d Deque) bottom() int { return d.First + 1 }

// slot: of the place of a position.
func (d Deque) slot(p int64) int {
	n := int64(d.Places)
	return d.First + 2 + int((p%n+n)%n)
}

// Push: whether there is room for it.
func (d Deque) Push(s *Steps, v int64) bool {
	b := s.Load(d.bottom())
	if b-s.Load(d.top()) >= int64(d.Places) {
		return false
	}
	s.Store(d.slot(b), v)
	s.Store(d.bottom(), b+1)
	return true
}

// Pop: what was popped, if something was.
func (d Deque) Pop(s *Steps) (int64, bool) {
	b := s.Load(d.bottom()) - 1
	s.Store(d.bottom(), b)
	p := s.Load(d.top())
	if b-p < 0 {
		s.Store(d.bottom(), b+1)
		return 0, false
	}
	v := s.Load(d.slot(b))
	if b-p > 0 {
		return v, true
	}
	first := s.Cas(d.top(), p, p+1)
	s.Store(d.bottom(), b+1)
	if !first {
		return 0, false
	}
	return v, true
}

// How a Steal ends: as the chapter numbers it.
const (
	StealNone int8 = 0
	StealGot  int8 = 1
	StealLost int8 = 2
)

// Steal: what was stolen, and how it ended.
func (d Deque) Steal(s *Steps) (int64, int8) {
	p := s.Load(d.top())
	if s.Load(d.bottom())-p <= 0 {
		return 0, StealNone
	}
	v := s.Load(d.slot(p))
	if !s.Cas(d.top(), p, p+1) {
		return 0, StealLost
	}
	return v, StealGot
}

// Len: the length that is told.
func (d Deque) Len(s *Steps) int64 {
	top := s.Load(d.top())
	return s.Load(d.bottom()) - top
}
