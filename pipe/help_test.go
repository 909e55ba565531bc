package pipe_test

import (
	"math"
	"strconv"
	"time"

	"treadle/aid"
	"treadle/api"
	"treadle/cell"
	"treadle/gate"
	"treadle/pipe"
)

// inTime: where something goes wrong somebody might sleep, or go round, for ever.
func inTime() (stop func() bool) {
	return time.AfterFunc(2*time.Minute, func() { panic("R1, W3: somebody sleeps on") }).Stop
}

// thing: a pipe: the package's, or one of a test.
type thing interface {
	Send(t *gate.Thread, v int64) api.Errno
	Recv(t *gate.Thread) (int64, api.Errno)
	TrySend(t *gate.Thread, v int64) int8
	TryRecv(t *gate.Thread) (int64, int8)
	Close(t *gate.Thread) api.Errno
}

// bell: a cell, or one of a test.
type bell interface {
	Load(t *gate.Thread) int64
	Add(t *gate.Thread, d int64) int64
}

// kind: what makes bells, and pipes with a bell, or, if that is nil, with one of their own: the package, or a test.
type kind struct {
	bell func(v int64) bell
	pipe func(n int, b bell) (thing, bell)
}

// made: by the package.
var made = kind{func(v int64) bell { return cell.New(v) }, func(n int, b bell) (thing, bell) {
	own, _ := b.(*cell.Cell)
	p := newPipe(n, own)
	return p, p.Bell()
}}

func newPipe(n int, b *cell.Cell) *pipe.Pipe {
	p, e := pipe.New(n, b)
	if e != api.OK {
		panic("refused")
	}
	return p
}

// What a call does.
const (
	try = iota // TrySend
	ask        // TryRecv
	send
	recv
	shut
	hear // is a Load of the bell
	ring // is an Add of the bell
)

// call: of a pipe, by its place; -1 is one that is nil, -2 one that New did not make. v is what it sends, or adds.
type call struct {
	op, of int
	v      int64
}

var asks, recvs, closes, hears = call{op: ask}, call{op: recv}, call{op: shut}, call{op: hear}

func tries(v int64) call       { return call{op: try, v: v} }
func sends(v int64) call       { return call{op: send, v: v} }
func rings(d int64) call       { return call{op: ring, v: d} }
func (c call) on(of int) call  { c.of = of; return c }
func (c call) isSending() bool { return c.op == try || c.op == send }

// String: what a call is told of by.
func (c call) String() string {
	s := []string{"try", "ask", "send", "recv", "close", "hear", "ring"}[c.op] + strconv.Itoa(c.of)
	if c.isSending() || c.op == ring {
		s += "(" + strconv.FormatInt(c.v, 10) + ")"
	}
	return s
}

// plan: of how many places the pipes are, and whether they have one bell, which holds so much at first; else each has its own.
type plan struct {
	rooms  []int
	shared bool
	rung   int64
}

// one: a pipe with a bell of its own.
func one(n int) plan { return plan{rooms: []int{n}} }

// two: pipes of two places with one bell.
var two = plan{rooms: []int{2, 2}, shared: true, rung: math.MaxInt64 - 1}

// world: pipes that are made by some kind, and what is told of the calls of them. Of its threads one moves at a time.
type world struct {
	pipes []thing
	bells []bell
	facts []*fact
	story aid.Story
}

func newWorld(k kind, of plan) *world {
	w := &world{}
	var shared bell
	if of.shared {
		shared = k.bell(of.rung)
	}
	for _, n := range of.rooms {
		p, b := k.pipe(n, shared)
		w.pipes, w.bells, w.facts = append(w.pipes, p), append(w.bells, b), append(w.facts, &fact{room: n, got: map[[2]int]int{}})
	}
	return w
}

// ours: a world of the package's, in which one thread has made the first calls.
func ours(of plan, first ...call) *world {
	w := newWorld(made, of)
	w.one(first...)
	return w
}

func (w *world) pipe(of int) thing {
	switch of {
	case -1:
		return (*pipe.Pipe)(nil)
	case -2:
		return new(pipe.Pipe)
	}
	return w.pipes[of]
}

// bell: of what is none there is none.
func (w *world) bell(of int) bell {
	if of < 0 {
		return (*cell.Cell)(nil)
	}
	return w.bells[of]
}

// makes makes the calls, one behind the other: what is told then.
func (w *world) makes(t *gate.Thread, calls ...call) string {
	from := len(w.story)
	for _, c := range calls {
		w.story.Tells(t, c.String()+":"+w.does(t, c))
	}
	return w.story[from:].String()
}

// does makes a call: what is told of its answer.
func (w *world) does(t *gate.Thread, c call) string {
	switch c.op {
	case hear:
		return strconv.FormatInt(w.bell(c.of).Load(t), 10)
	case ring:
		return strconv.FormatInt(w.bell(c.of).Add(t, c.v), 10)
	}
	if c.of < 0 {
		return asked(w.pipe(c.of), t, c).String()
	}
	f := w.facts[c.of]
	j := f.begins(t, c)
	a := asked(w.pipes[c.of], t, c)
	f.ends(j, a)
	return a.String()
}

// answer: how a call ended; and what it received.
type answer struct {
	how string
	v   int64
}

// How calls end; another call by the name of its error.
const did, not, closed = "did", "not", "closed"

func got(v int64) answer { return answer{did, v} }

// String: where nothing was received 0 is not told.
func (a answer) String() string {
	if a.v != 0 {
		return a.how + "_" + strconv.FormatInt(a.v, 10)
	}
	return a.how
}

// asked makes a call of a pipe.
func asked(p thing, t *gate.Thread, c call) (a answer) {
	switch c.op {
	case try:
		a.how = tried(p.TrySend(t, c.v))
	case ask:
		v, how := p.TryRecv(t)
		a = answer{tried(how), v}
	case send:
		a.how = named(p.Send(t, c.v))
	case recv:
		v, e := p.Recv(t)
		a = answer{named(e), v}
	case shut:
		a.how = named(p.Close(t))
	}
	return a
}

func tried(how int8) string {
	switch how {
	case pipe.Did:
		return did
	case pipe.Not:
		return not
	case pipe.Closed:
		return closed
	}
	return "none of them: " + strconv.Itoa(int(how))
}

func named(e api.Errno) string {
	switch e {
	case api.OK:
		return did
	case api.ErrNil:
		return "ErrNil"
	case api.ErrClosed:
		return closed
	}
	return e.Error()
}

// allOf makes the calls of one pipe, one behind the other.
func allOf(p thing, t *gate.Thread, calls ...call) (l []answer) {
	for _, c := range calls {
		l = append(l, asked(p, t, c))
	}
	return l
}

// bodies: of threads that make these calls.
func (w *world) bodies(calls [][]call) (l []aid.Body) {
	for _, mine := range calls {
		l = append(l, func(t *gate.Thread) { w.makes(t, mine...) })
	}
	return l
}

// one: the record of calls that one thread makes, and what is told.
func (w *world) one(calls ...call) (api.Report, string) {
	from := len(w.story)
	report := gate.Run(nil, api.MaxTurns, w.bodies([][]call{calls})...)
	return report, w.story[from:].String()
}

// plain: a pipe that one alone calls, by the chapter's words.
type plain struct {
	room   int
	closed bool
	values string // those that are there, each with a blank behind it
	has    int
}

// sleeps: what a call is answered that does not come back.
var sleeps = answer{how: "sleeps"}

// plainly: what a pipe is behind a call, and what it answers.
func plainly(s plain, c call) (plain, answer) {
	switch {
	case c.op == shut && s.closed, c.isSending() && s.closed, (c.op == ask || c.op == recv) && s.closed && s.has == 0:
		return s, answer{how: closed}
	case c.op == shut:
		s.closed = true
		return s, answer{how: did}
	case c.isSending() && s.has < s.room:
		s.has++
		s.values += strconv.FormatInt(c.v, 10) + " "
		return s, answer{how: did}
	case (c.op == ask || c.op == recv) && s.has > 0:
		s.has--
		return s.gives()
	case c.op == try || c.op == ask:
		return s, answer{how: not}
	}
	return s, sleeps
}

// gives takes out what was sent first.
func (s plain) gives() (plain, answer) {
	for i, r := range s.values {
		if r == ' ' {
			v, _ := strconv.ParseInt(s.values[:i], 10, 64)
			s.values = s.values[i+1:]
			return s, got(v)
		}
	}
	return s, sleeps
}

// rung: how often calls that are answered so have rung the bell.
func rung(l []answer) (n int64) {
	for _, a := range l {
		n += int64(aid.Digit(a.how == did))
	}
	return n
}
