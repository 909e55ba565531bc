package pipe

import "treadle/gate"

// What in is made of.
const (
	shut  = 1 // when the pipe is closed
	claim = 2 // of each position that is claimed by sending
)

// vacant claims the next position by sending: which; or how the try ends else.
func (p *Pipe) vacant(t *gate.Thread) (int64, int8) {
	for {
		x := p.in.Load(t)
		if x&shut != 0 {
			return 0, Closed
		}
		at := x / claim
		switch d := p.at(at).turn.Load(t) - at; {
		case d < 0:
			return 0, Not
		case d == 0 && p.in.Cas(t, x, x+claim):
			return at, Did
		}
	}
}

// filled claims the next position by receiving: which; or how the try ends else.
func (p *Pipe) filled(t *gate.Thread) (int64, int8) {
	for {
		at := p.out.Load(t)
		switch d := p.at(at).turn.Load(t) - (at + 1); {
		case d < 0:
			return 0, p.why(t, at)
		case d == 0 && p.out.Cas(t, at, at+1):
			return at, Did
		}
	}
}

// why nothing is there as yet at the position that is claimed next by receiving: whether nobody has claimed it by sending, and nobody will.
func (p *Pipe) why(t *gate.Thread, at int64) int8 {
	if p.in.Load(t) == at*claim+shut {
		return Closed
	}
	return Not
}

// at: the place of a position.
func (p *Pipe) at(at int64) *place { return &p.places[at&int64(len(p.places)-1)] }
