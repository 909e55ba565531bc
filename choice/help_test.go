package choice_test

import (
	"strconv"
	"strings"
	"time"

	"treadle/aid"
	"treadle/api"
	"treadle/cell"
	"treadle/choice"
	"treadle/gate"
	"treadle/pipe"
)

// inTime: where something goes wrong somebody might sleep, or go round, for ever.
func inTime() (stop func() bool) {
	return time.AfterFunc(2*time.Minute, func() { panic("R1, W3: somebody sleeps on") }).Stop
}

// chooser: a choice: the package's, or one of a test.
type chooser interface {
	Select(t *gate.Thread, l ...choice.Case) (i int, v int64, ok bool, e api.Errno)
	Try(t *gate.Thread, l ...choice.Case) (i int, v int64, ok bool, e api.Errno)
}

// kind: what makes choices whose ticket holds so much at first: the package, or a test.
type kind func(bell *cell.Cell, ticket int64) chooser

// made: by the package.
func made(bell *cell.Cell, ticket int64) chooser {
	if ticket == 0 {
		return choice.New(bell)
	}
	return choice.From(bell, ticket)
}

// newPipe: of so many places.
func newPipe(n int, bell *cell.Cell) *pipe.Pipe {
	p, e := pipe.New(n, bell)
	if e != api.OK {
		panic("refused")
	}
	return p
}

// What stands in the place of a pipe, or of a choice.
const (
	null    = -1
	unmade  = -2 // New did not make it
	strange = -3 // a pipe with another bell
)

// arm: a case: of a pipe, by its place.
type arm struct {
	of   int
	send bool
	v    int64
}

// from receives from a pipe; into sends into it. (What a case that receives has for a Value is not looked at.)
func from(of int) arm          { return arm{of: of, v: 99} }
func into(of int, v int64) arm { return arm{of, true, v} }

// String: what a case is told of by.
func (a arm) String() string {
	if a.send {
		return "s" + strconv.Itoa(a.of) + "_" + strconv.FormatInt(a.v, 10)
	}
	return "r" + strconv.Itoa(a.of)
}

// What a call does.
const (
	try  = iota // of a choice
	pick        // is a Select
	send        // of a pipe
	recv
	put  // is a TrySend
	take // is a TryRecv
	shut // is a Close
	hear // is a Load of the bell
	ring // is an Add of the bell
)

// call: of a choice or a pipe, by its place. v is what it sends, or adds.
type call struct {
	op, of int
	v      int64
	arms   []arm
}

var hears = call{op: hear}

func tries(l ...arm) call        { return call{op: try, arms: l} }
func picks(l ...arm) call        { return call{op: pick, arms: l} }
func sends(of int, v int64) call { return call{op: send, of: of, v: v} }
func recvs(of int) call          { return call{op: recv, of: of} }
func puts(of int, v int64) call  { return call{op: put, of: of, v: v} }
func takes(of int) call          { return call{op: take, of: of} }
func closes(of int) call         { return call{op: shut, of: of} }
func rings(d int64) call         { return call{op: ring, v: d} }
func (c call) by(of int) call    { c.of = of; return c }
func (c call) chooses() bool     { return c.op == try || c.op == pick }
func (c call) mayNotSleep() bool { return c.op != pick && c.op != send && c.op != recv }
func (c call) isSending() bool   { return c.op == send || c.op == put }

// String: what a call is told of by.
func (c call) String() string {
	s := []string{"try", "select", "send", "recv", "put", "take", "close", "hear", "ring"}[c.op]
	switch {
	case c.chooses():
		var l []string
		for _, a := range c.arms {
			l = append(l, a.String())
		}
		return s + strconv.Itoa(c.of) + "(" + strings.Join(l, ",") + ")"
	case c.op == hear:
		return s
	case c.op == ring:
		return s + "(" + strconv.FormatInt(c.v, 10) + ")"
	case c.isSending():
		return s + strconv.Itoa(c.of) + "(" + strconv.FormatInt(c.v, 10) + ")"
	}
	return s + strconv.Itoa(c.of)
}

// arm: what a call of a pipe does, or, of a choice, the case that was found.
func (c call) arm(found int) arm {
	if c.chooses() {
		return c.arms[found]
	}
	return arm{c.of, c.isSending(), c.v}
}

// plan: of how many places the pipes are, what their bell holds at first, and the tickets of the choices.
type plan struct {
	rooms   []int
	rung    int64
	tickets []int64
}

// two: pipes of two places with one bell, and a choice.
var two = plan{rooms: []int{2, 2}, tickets: []int64{0}}

// planOf: so many pipes of two places, and a choice with this ticket.
func planOf(pipes int, ticket int64) (p plan) {
	for range pipes {
		p.rooms = append(p.rooms, 2)
	}
	p.tickets = []int64{ticket}
	return p
}

// world: choices that are made by some kind, pipes, and what is told of the calls of them. Of its threads one moves at a time.
type world struct {
	bell    *cell.Cell
	pipes   []*pipe.Pipe
	other   *pipe.Pipe // has another bell
	choices []chooser
	facts   *facts
	story   aid.Story
}

func newWorld(k kind, p plan) *world {
	w := &world{bell: cell.New(p.rung), other: newPipe(2, nil), facts: newFacts(p)}
	w.other.TrySend(nil, 1) // it is ready for whatever case
	for _, n := range p.rooms {
		w.pipes = append(w.pipes, newPipe(n, w.bell))
	}
	for _, ticket := range p.tickets {
		w.choices = append(w.choices, k(w.bell, ticket))
	}
	return w
}

// ours: a world of the package's, in which one thread has made the first calls.
func ours(p plan, first ...call) *world {
	w := newWorld(made, p)
	w.one(first...)
	return w
}

// cases: what a choice is handed.
func (w *world) cases(arms []arm) (l []choice.Case) {
	for _, a := range arms {
		x := choice.Case{Send: a.send, Value: a.v}
		switch a.of {
		case null:
		case unmade:
			x.Pipe = new(pipe.Pipe)
		case strange:
			x.Pipe = w.other
		default:
			x.Pipe = w.pipes[a.of]
		}
		l = append(l, x)
	}
	return l
}

func (w *world) choice(of int) chooser {
	switch of {
	case null:
		return (*choice.Choice)(nil)
	case unmade:
		return new(choice.Choice)
	}
	return w.choices[of]
}

// makes makes the calls, one behind the other: what is told then.
func (w *world) makes(t *gate.Thread, calls ...call) string {
	from := len(w.story)
	for _, c := range calls {
		w.story.Tells(t, c.String()+":"+w.does(t, c))
	}
	return w.story[from:].String()
}

// does makes a call: what is told of its answer.
func (w *world) does(t *gate.Thread, c call) string {
	switch c.op {
	case hear:
		return strconv.FormatInt(w.bell.Load(t), 10)
	case ring:
		return strconv.FormatInt(w.bell.Add(t, c.v), 10)
	}
	j := w.facts.begins(c)
	a := w.asked(t, c)
	w.facts.ends(j, a)
	return a.String()
}

// answer: how a call ended; the case that was found, -1 if none was, or there were none; and what was received.
type answer struct {
	how string
	i   int
	v   int64
}

// How calls end; another call by the name of its error.
const (
	did, not, closed = "did", "not", "closed" // that a pipe is closed is told by closed, but by a choice:
	refused          = "refused"              // one who sends is told so by an error
	over             = "over"                 // one who receives
)

// What calls are answered.
var (
	notYet               = answer{not, -1, 0}
	okay                 = answer{did, -1, 0}
	shutNow              = answer{closed, -1, 0}
	noOne, noPipe, apart = answer{"ErrNone", -1, 0}, answer{"ErrNil", -1, 0}, answer{"ErrArg", -1, 0}
	sleeps               = answer{"sleeps", -1, 0} // it does not come back
)

func got(i int, v int64) answer { return answer{did, i, v} }
func sent(i int) answer         { return answer{did, i, 0} }
func refusedBy(i int) answer    { return answer{refused, i, 0} }
func overBy(i int) answer       { return answer{over, i, 0} }

// String: where no case was found -1 is not told, and where nothing was received 0 is not.
func (a answer) String() string {
	s := a.how
	if a.i >= 0 {
		s += "@" + strconv.Itoa(a.i)
	}
	if a.v != 0 {
		s += "_" + strconv.FormatInt(a.v, 10)
	}
	return s
}

// asked makes a call of a choice or a pipe.
func (w *world) asked(t *gate.Thread, c call) answer {
	switch c.op {
	case try:
		return chosen(c.arms)(w.choice(c.of).Try(t, w.cases(c.arms)...))
	case pick:
		return chosen(c.arms)(w.choice(c.of).Select(t, w.cases(c.arms)...))
	case send:
		return told(w.pipes[c.of].Send(t, c.v), 0)
	case recv:
		v, e := w.pipes[c.of].Recv(t)
		return told(e, v)
	case put:
		return tried(w.pipes[c.of].TrySend(t, c.v), 0)
	case take:
		v, how := w.pipes[c.of].TryRecv(t)
		return tried(how, v)
	}
	return told(w.pipes[c.of].Close(t), 0)
}

func told(e api.Errno, v int64) answer {
	how := map[api.Errno]string{api.OK: did, api.ErrClosed: closed}[e]
	return answer{how, -1, v}
}

func tried(how int8, v int64) answer {
	return answer{[]string{"", did, not, closed}[how], -1, v}
}

// chosen: what a choice among these cases answers; all that does not go together is told as it is.
func chosen(l []arm) func(i int, v int64, ok bool, e api.Errno) answer {
	return func(i int, v int64, ok bool, e api.Errno) answer {
		is := i >= 0 && i < len(l)
		switch {
		case is && ok && e == api.OK && (v == 0 || !l[i].send):
			return answer{did, i, v}
		case is && !ok && e == api.OK && v == 0 && !l[i].send:
			return answer{over, i, 0}
		case is && !ok && e == api.ErrClosed && v == 0 && l[i].send:
			return answer{refused, i, 0}
		case i == -1 && v == 0 && !ok:
			if how := map[api.Errno]string{api.OK: not, api.ErrNil: noPipe.how, api.ErrNone: noOne.how, api.ErrArg: apart.how}[e]; how != "" {
				return answer{how, -1, 0}
			}
		}
		return answer{"amiss:" + strconv.Itoa(i) + "," + strconv.FormatInt(v, 10) + "," + aid.Yes(ok) + "," + strconv.Itoa(int(e)), -1, 0}
	}
}

// allOf makes the calls, one behind the other.
func (w *world) allOf(t *gate.Thread, calls ...call) (l []answer) {
	for _, c := range calls {
		l = append(l, w.asked(t, c))
	}
	return l
}

// bodies: of threads that make these calls.
func (w *world) bodies(calls [][]call) (l []aid.Body) {
	for _, mine := range calls {
		l = append(l, func(t *gate.Thread) { w.makes(t, mine...) })
	}
	return l
}

// one: the record of calls that one thread makes, and what is told.
func (w *world) one(calls ...call) (api.Report, string) {
	from := len(w.story)
	report := gate.Run(nil, api.MaxTurns, w.bodies([][]call{calls})...)
	return report, w.story[from:].String()
}
