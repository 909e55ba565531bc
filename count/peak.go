package count

import (
	"treadle/cell"
	"treadle/gate"
)

// Peak is the greatest value that was shown to it.
type Peak struct {
	top *cell.Cell // nil of one that NewPeak did not make
}

// NewPeak: a peak of v.
func NewPeak(v int64) *Peak { return &Peak{top: cell.New(v)} }

// Raise lays v, if it is above the peak: whether it does.
func (p *Peak) Raise(t *gate.Thread, v int64) bool {
	if p.none() {
		return false
	}
	rises := false
raise:
	for {
		switch x := p.top.Load(t); {
		case x >= v:
			break raise
		case p.top.Cas(t, x, v):
			rises = true
			break raise
		}
	}
	return rises
}

// Top: the peak.
func (p *Peak) Top(t *gate.Thread) int64 {
	if p.none() {
		return 0
	}
	return p.top.Load(t)
}

// none: whether it is nil, or NewPeak did not make it.
func (p *Peak) none() bool { return p == nil || p.top == nil }
