package limit_test

import (
	"strconv"
	"testing"
	"time"

	"treadle/aid"
	"treadle/api"
	"treadle/cell"
	"treadle/clock"
	"treadle/future"
	"treadle/gate"
	"treadle/limit"
	"treadle/token"
)

// inTime: where something goes wrong somebody might sleep, or go round, for ever.
func inTime() (stop func() bool) {
	return time.AfterFunc(2*time.Minute, func() { panic("R1, W3: somebody sleeps on") }).Stop
}

// by calls f with each thread that does not live, and with one that does.
func by(t *testing.T, f func(who string, th *gate.Thread)) {
	t.Helper()
	for _, f := range aid.By(f) {
		t.Errorf("R1: %s", f)
	}
}

// kind: what makes futures and tokens with a clock behind them: the package, or a test.
type kind struct {
	within   func(t *gate.Thread, c *clock.Clock, f *future.Future, d int64) (*future.Future, api.Errno)
	deadline func(t *gate.Thread, c *clock.Clock, k *token.Token, d int64) (*token.Token, api.Errno)
}

// made: by the package.
var made = kind{limit.Within, limit.Deadline}

// What their packages' own calls did not make.
var (
	noClock  = new(clock.Clock)
	noFuture = new(future.Future)
	noToken  = new(token.Token)
)

// What a call does.
const (
	within = iota
	deadline
	advance
	now
	set // of a timer of its own
	complete
	claim
	then
	await
	peek
	cancel
	onCancel
	child
	reason
	wait
	add // is an access of the cell that all share
)

// call: of a clock, of a future or a token, by their places; where nothing is, it is nil; -2 is one that its package did not make. n is a time, or a reason.
type call struct {
	op, clock, of int
	n             int64
	is            aid.Answer // what a future is completed with
	does          *deed      // what a function does
}

func withins(c, of int, d int64) call         { return call{op: within, clock: c, of: of, n: d} }
func deadlines(c, of int, d int64) call       { return call{op: deadline, clock: c, of: of, n: d} }
func advances(c int, d int64) call            { return call{op: advance, clock: c, n: d} }
func nows(c int) call                         { return call{op: now, clock: c} }
func sets(c int, due int64, d *deed) call     { return call{op: set, clock: c, n: due, does: d} }
func completes(of int, v int64, e error) call { return call{op: complete, of: of, is: aid.Told(v, e)} }
func claims(of int) call                      { return call{op: claim, of: of} }
func thens(of int, d *deed) call              { return call{op: then, of: of, does: d} }
func awaits(of int) call                      { return call{op: await, of: of} }
func peeks(of int) call                       { return call{op: peek, of: of} }
func cancels(of int, n int64) call            { return call{op: cancel, of: of, n: n} }
func onCancels(of int, d *deed) call          { return call{op: onCancel, of: of, does: d} }
func bears(of int) call                       { return call{op: child, of: of} }
func reasons(of int) call                     { return call{op: reason, of: of} }
func waits(of int) call                       { return call{op: wait, of: of} }
func adds() call                              { return call{op: add} }

// String: what a call is told of by.
func (c call) String() string {
	what := []string{"within", "deadline", "advance", "now", "set", "complete", "claim", "then", "await", "peek", "cancel", "onCancel", "child", "reason", "wait", "add"}[c.op]
	at, of, n := strconv.Itoa(c.clock), strconv.Itoa(c.of), strconv.FormatInt(c.n, 10)
	switch {
	case c.op <= deadline:
		return what + "(" + at + "," + of + "," + n + ")"
	case c.op == now:
		return what + at
	case c.op <= set:
		return what + at + "(" + n + ")"
	case c.op == cancel:
		return what + of + "(" + n + ")"
	case c.op == add:
		return what
	}
	return what + of
}

// text: a call with all that belongs to it.
func (c call) text() string { return c.String() + " " + c.is.String() + " " + c.does.String() }

func texts(calls []call) (l []string) {
	for _, c := range calls {
		l = append(l, c.text())
	}
	return l
}

// deed: what a function does: it makes calls, and comes back, or panics with its name.
type deed struct {
	name  string
	calls []call
	falls bool
}

func quiet(name string) *deed                 { return &deed{name: name} }
func busy(name string, calls ...call) *deed   { return &deed{name: name, calls: calls} }
func fallen(name string, calls ...call) *deed { return &deed{name: name, calls: calls, falls: true} }

// String: for the texts of tests that fail.
func (d *deed) String() string {
	if d == nil {
		return "none"
	}
	s := d.name
	for _, c := range d.calls {
		s += " (" + c.text() + ")"
	}
	if d.falls {
		s += " falls"
	}
	return s
}

// plan: of a world: how many clocks, futures and tokens are there ahead of all calls.
type plan struct{ clocks, futures, tokens int }

// usual: the plan of most tests.
var usual = plan{1, 1, 1}

// world: clocks, futures and tokens, some of which are made by some kind, and what is told of the calls of them. Of its threads one moves at a time.
type world struct {
	kind
	clocks  []*clock.Clock
	times   []*times // of the clocks
	futures []*future.Future
	facts   []*fact // of the futures
	tokens  []*token.Token
	holds   []*hold // of the tokens
	x       *cell.Cell
	story   aid.Story
	awake   bool // nobody is there who would wake one who waits
}

func newWorld(k kind, p plan) *world {
	w := &world{kind: k, x: cell.New(0)}
	for range p.clocks {
		w.clocks, w.times = append(w.clocks, clock.New()), append(w.times, &times{})
	}
	for range p.futures {
		w.putFuture(future.New(), &fact{})
	}
	for range p.tokens {
		w.putToken(token.New(), &hold{})
	}
	return w
}

// putFuture: one more: its number.
func (w *world) putFuture(x *future.Future, f *fact) string {
	f.x = x
	w.futures, w.facts = append(w.futures, x), append(w.facts, f)
	return "#" + strconv.Itoa(len(w.futures)-1)
}

// putToken: one more: its number.
func (w *world) putToken(k *token.Token, h *hold) string {
	h.k = k
	w.tokens, w.holds = append(w.tokens, k), append(w.holds, h)
	return "#" + strconv.Itoa(len(w.tokens)-1)
}

// ours: a world of the package's, in which one alone has made the first calls, free.
func ours(p plan, first ...call) *world {
	w := newWorld(made, p)
	w.alone(first...)
	return w
}

// at: what stands at this place; none is what its package did not make.
func at[T any](l []*T, of int, none *T) *T {
	switch {
	case of == -2:
		return none
	case of < 0 || of >= len(l):
		return nil
	}
	return l[of]
}

func (w *world) clock(of int) *clock.Clock    { return at(w.clocks, of, noClock) }
func (w *world) future(of int) *future.Future { return at(w.futures, of, noFuture) }
func (w *world) token(of int) *token.Token    { return at(w.tokens, of, noToken) }

// alone makes the calls, free; nobody else is there: what is told then.
func (w *world) alone(calls ...call) string {
	was := w.awake
	w.awake = true
	s := w.makes(nil, calls...)
	w.awake = was
	return s
}

// makes makes the calls, one behind the other: what is told then.
func (w *world) makes(t *gate.Thread, calls ...call) string {
	from := len(w.story)
	for _, c := range calls {
		w.does(t, c)
	}
	return w.story[from:].String()
}

// does makes a call. The panic of a deed is caught; the gate's own is not.
func (w *world) does(t *gate.Thread, c call) {
	defer func() {
		switch x := recover().(type) {
		case nil:
		case string:
			w.story.Tells(t, c.String()+":fell:"+x)
		default:
			panic(x)
		}
	}()
	w.story.Tells(t, c.String()+":"+w.said(t, c))
}

// said: what is told of a call's answer.
func (w *world) said(t *gate.Thread, c call) string {
	x, k := w.future(c.of), w.token(c.of)
	switch c.op {
	case within:
		return w.withins(t, c)
	case deadline:
		return w.deadlines(t, c)
	case advance:
		return w.advances(t, c)
	case now:
		return strconv.FormatInt(w.clock(c.clock).Now(t), 10)
	case set:
		return w.sets(t, c)
	case complete:
		w.fact(c.of).tries(c.is)
		return aid.Yes(x.Complete(t, c.is.V, c.is.E))
	case claim:
		w.fact(c.of).outside = true
		return aid.Yes(x.Claim(t) != nil)
	case then:
		return w.thens(t, c)
	case await, peek:
		return w.asks(t, c)
	case cancel:
		w.hold(c.of).tries(c.n)
		return aid.Yes(k.Cancel(t, c.n))
	case onCancel:
		return w.onCancels(t, c)
	case child:
		return w.bears(t, c)
	case reason, wait:
		return w.reasons(t, c)
	}
	return strconv.FormatInt(w.x.Add(t, 1), 10)
}

// named: an error, by the chapter's name.
func named(e api.Errno) string {
	switch e {
	case api.OK:
		return "ok"
	case api.ErrArg:
		return "ErrArg"
	case api.ErrNil:
		return "ErrNil"
	case api.ErrFull:
		return "ErrFull"
	case api.ErrBusy:
		return "ErrBusy"
	case api.ErrDeep:
		return "ErrDeep"
	}
	return e.Error()
}

// answered: what is told of a thing that was made, or refused. there: those that were there.
func answered[T any](x *T, e api.Errno, there []*T, puts func() string) string {
	if (x == nil) != (e != api.OK) {
		return "neither a thing nor an error, or both"
	}
	for _, y := range there {
		if x == y && x != nil {
			return "one that was there"
		}
	}
	if x == nil {
		return named(e)
	}
	return puts()
}

func (w *world) withins(t *gate.Thread, c call) string {
	s := w.begins(c)
	g, e := w.within(t, w.clock(c.clock), w.future(c.of), c.n)
	return answered(g, e, w.futures, func() string { return w.putFuture(g, &fact{from: w.fact(c.of), late: s.stands()}) })
}

func (w *world) deadlines(t *gate.Thread, c call) string {
	s := w.begins(c)
	x, e := w.deadline(t, w.clock(c.clock), w.token(c.of), c.n)
	return answered(x, e, w.tokens, func() string { return w.putToken(x, &hold{above: w.hold(c.of), late: s.stands()}) })
}

func (w *world) bears(t *gate.Thread, c call) string {
	x, e := w.token(c.of).Child(t)
	return answered(x, e, w.tokens, func() string { return w.putToken(x, &hold{above: w.hold(c.of)}) })
}

// advances: what is told of an Advance's answer.
func (w *world) advances(t *gate.Thread, c call) string {
	s := w.time(c.clock)
	ends := s.begins(c.n)
	n, e := w.clock(c.clock).Advance(t, c.n)
	if e != api.OK {
		return named(e)
	}
	ends(n)
	return strconv.Itoa(n)
}

// sets: what is told of a Set's answer: the slot, and the state.
func (w *world) sets(t *gate.Thread, c call) string {
	x, e := w.clock(c.clock).Set(t, c.n, func(t *gate.Thread) { w.called(t, c.does, "") })
	if e != api.OK {
		return named(e)
	}
	return strconv.Itoa(x.Slot) + "/" + strconv.FormatInt(x.Ring, 10)
}

// called: what a function does that is called with that.
func (w *world) called(t *gate.Thread, d *deed, with string) {
	w.story.Tells(t, d.name+":"+with+"(")
	for _, c := range d.calls {
		w.does(t, c)
	}
	if d.falls {
		panic(d.name)
	}
	w.story.Tells(t, ")")
}

// thens: what is told of a Then's answer.
func (w *world) thens(t *gate.Thread, c call) string {
	f, calls := w.fact(c.of), 0
	return named(w.future(c.of).Then(t, func(t *gate.Thread, v int64, e error) {
		a := aid.Told(v, e)
		calls++
		f.fault(calls > 1, "a function is called twice")
		f.hears(a)
		w.called(t, c.does, a.String())
	}))
}

// onCancels: what is told of an OnCancel's answer.
func (w *world) onCancels(t *gate.Thread, c call) string {
	h, calls := w.hold(c.of), 0
	return named(w.token(c.of).OnCancel(t, func(t *gate.Thread, r int64) {
		calls++
		h.fault(calls > 1 || r == 0, "a function is called twice, or without a reason")
		h.hears(r)
		w.called(t, c.does, strconv.FormatInt(r, 10))
	}))
}

// asks: what is told of what a future came to.
func (w *world) asks(t *gate.Thread, c call) string {
	x, f := w.future(c.of), w.fact(c.of)
	if c.op == peek {
		v, e, done := x.Peek(t)
		if !done {
			return "none"
		}
		f.hears(aid.Told(v, e))
		return aid.Told(v, e).String()
	}
	if _, _, done := x.Peek(nil); w.awake && f.x != nil && !done {
		return "sleeps"
	}
	defer inTime()()
	a := aid.Told(x.Await(t))
	f.hears(a)
	return a.String()
}

// reasons: what is told of a token's reason.
func (w *world) reasons(t *gate.Thread, c call) string {
	k, h := w.token(c.of), w.hold(c.of)
	var r int64
	switch {
	case c.op == reason:
		r = k.Reason(t)
	case w.awake && h.k != nil && k.Reason(nil) == 0:
		return "sleeps"
	default:
		defer inTime()()
		r = k.Wait(t)
		h.fault(r == 0 && h.k != nil, "somebody is woken without a reason")
	}
	h.hears(r)
	return strconv.FormatInt(r, 10)
}

// bodies: of threads that make these calls.
func (w *world) bodies(calls [][]call) (l []aid.Body) {
	for _, mine := range calls {
		l = append(l, func(t *gate.Thread) { w.makes(t, mine...) })
	}
	return l
}

// one: the record of calls that one thread makes, and what it is told.
func (w *world) one(calls ...call) (api.Report, string) {
	from := len(w.story)
	report := gate.Run(nil, api.MaxTurns, w.bodies([][]call{calls})...)
	return report, w.story[from:].String()
}

// cameTo: what each future came to, and each token's reason; nobody else is there.
func (w *world) cameTo() string {
	var calls []call
	for i := range w.futures {
		calls = append(calls, peeks(i))
	}
	for i := range w.tokens {
		calls = append(calls, reasons(i))
	}
	return w.alone(calls...)
}
