package scope_test

import (
	"strconv"
	"time"

	"treadle/aid"
	"treadle/api"
	"treadle/cell"
	"treadle/fault"
	"treadle/gate"
	"treadle/scope"
	"treadle/token"
)

// inTime: where something goes wrong somebody might sleep, or go round, for ever.
func inTime() (stop func() bool) {
	return time.AfterFunc(2*time.Minute, func() { panic("R1, W3: somebody sleeps on") }).Stop
}

// function: of a task.
type function = func(t *gate.Thread, k *token.Token) error

// thing: a scope: the package's, or one of a test.
type thing interface {
	Token() *token.Token
	Go(t *gate.Thread, f function) (int, api.Errno)
	Close(t *gate.Thread) bool
	Wait(t *gate.Thread) error
}

// kind: what makes scopes: the package, or a test.
type kind func(t *gate.Thread, k *token.Token) (thing, api.Errno)

// made: by the package.
func made(t *gate.Thread, k *token.Token) (thing, api.Errno) {
	s, e := scope.New(t, k)
	if s == nil {
		return nil, e
	}
	return s, e
}

// What their packages' own calls did not make.
var (
	noScope = new(scope.Scope)
	noToken = new(token.Token)
)

// What a call does.
const (
	open = iota
	begin
	shut
	wait
	cancel // of a token, as all up to child
	onCancel
	reason
	sleep
	child
	add  // is an access of the cell that all share
	grab // is one, too, and goes on where it is stopped
)

// call: of a scope, or of a token, by their places: from ofScope on they are the scopes' own. Where nothing is, it is nil; -2 is one that its package did not make. n is a reason.
type call struct {
	op, of int
	n      int64
	does   *deed // what a function does
}

// ofScope: where the places of the scopes' tokens begin.
const ofScope = 1000

func opens(k int) call              { return call{op: open, of: k} }
func begins(s int, d *deed) call    { return call{op: begin, of: s, does: d} }
func closes(s int) call             { return call{op: shut, of: s} }
func waits(s int) call              { return call{op: wait, of: s} }
func cancels(k int, n int64) call   { return call{op: cancel, of: k, n: n} }
func onCancels(k int, d *deed) call { return call{op: onCancel, of: k, does: d} }
func reasons(k int) call            { return call{op: reason, of: k} }
func sleeps(k int) call             { return call{op: sleep, of: k} }
func bears(k int) call              { return call{op: child, of: k} }
func adds() call                    { return call{op: add} }
func grabs() call                   { return call{op: grab} }

// String: what a call is told of by.
func (c call) String() string {
	what := []string{"new", "go", "close", "wait", "cancel", "onCancel", "reason", "sleep", "child", "add", "grab"}[c.op]
	of := strconv.Itoa(c.of)
	if c.of >= ofScope {
		of = "s" + strconv.Itoa(c.of-ofScope)
	}
	switch c.op {
	case cancel:
		return what + of + "(" + strconv.FormatInt(c.n, 10) + ")"
	case add, grab:
		return what
	}
	return what + of
}

// text: a call with all that belongs to it.
func (c call) text() string { return c.String() + " " + c.does.String() }

func texts(calls []call) (l []string) {
	for _, c := range calls {
		l = append(l, c.text())
	}
	return l
}

// deed: what a function does: it makes calls, and then answers an error, or none, or panics. The name is the function's.
type deed struct {
	name  string
	calls []call
	e     error
	falls bool
	with  any
}

func fine(name string, calls ...call) *deed { return &deed{name: name, calls: calls} }
func failed(name string, code int64, calls ...call) *deed {
	return &deed{name: name, calls: calls, e: &fault.Failed{Code: code}}
}
func fallen(name string, x any, calls ...call) *deed {
	return &deed{name: name, calls: calls, falls: true, with: x}
}

// String: for the texts of tests that fail.
func (d *deed) String() string {
	if d == nil {
		return "none"
	}
	s := d.name
	for _, c := range d.calls {
		s += " (" + c.text() + ")"
	}
	if d.falls {
		s += " falls"
	}
	if d.e != nil {
		s += " fails"
	}
	return s
}

// world: scopes that are made by some kind, and tokens; and what is told of the calls of them. Of its threads one moves at a time.
type world struct {
	kind
	scopes []thing
	facts  []*fact // of the scopes
	tokens []*token.Token
	x      *cell.Cell
	story  aid.Story
}

// newWorld: without scopes, and with so many tokens.
func newWorld(k kind, tokens int) *world {
	w := &world{kind: k, x: cell.New(0)}
	for range tokens {
		w.tokens = append(w.tokens, token.New())
	}
	return w
}

// usual: what one thread has made ahead of most tests: a scope without a token above it.
func usual() []call { return []call{opens(-1)} }

// ours: a world of the package's, in which one thread has made the first calls.
func ours(tokens int, first ...call) *world {
	w := newWorld(made, tokens)
	w.one(first...)
	return w
}

// at: what stands at this place; none is what its package did not make.
func at[T any](l []T, of int, null, none T) T {
	switch {
	case of == -2:
		return none
	case of < 0 || of >= len(l):
		return null
	}
	return l[of]
}

func (w *world) scope(of int) thing {
	return at[thing](w.scopes, of, (*scope.Scope)(nil), noScope)
}

func (w *world) token(of int) *token.Token {
	if of >= ofScope {
		return w.scope(of - ofScope).Token()
	}
	return at(w.tokens, of, nil, noToken)
}

// fact: what is noticed of the scope at this place; of what is none what nobody asks for.
func (w *world) fact(of int) *fact { return at(w.facts, of, new(fact), new(fact)) }

// makes makes the calls, one behind the other: what is told then.
func (w *world) makes(t *gate.Thread, calls ...call) string {
	from := len(w.story)
	for _, c := range calls {
		w.story.Tells(t, c.String()+":"+w.does(t, c))
	}
	return w.story[from:].String()
}

// does makes a call: what is told of its answer.
func (w *world) does(t *gate.Thread, c call) string {
	k := w.token(c.of)
	switch c.op {
	case open:
		return w.opens(t, k)
	case begin:
		return w.begins(t, c)
	case shut:
		f := w.fact(c.of)
		f.shutting = true
		is := w.scope(c.of).Close(t)
		f.shuts += aid.Digit(is)
		return aid.Yes(is)
	case wait:
		return w.waits(t, c.of)
	case cancel:
		return aid.Yes(k.Cancel(t, c.n))
	case onCancel:
		return named(k.OnCancel(t, func(t *gate.Thread, r int64) { w.called(t, c.does, strconv.FormatInt(r, 10)) }))
	case reason:
		return strconv.FormatInt(k.Reason(t), 10)
	case sleep:
		return strconv.FormatInt(k.Wait(t), 10)
	case child:
		_, e := k.Child(t)
		return named(e)
	case grab:
		said := "stopped"
		_ = aid.Caught(func() { said = strconv.FormatInt(w.x.Add(t, 1), 10) })
		return said
	}
	return strconv.FormatInt(w.x.Add(t, 1), 10)
}

// named: an error, by the chapter's name.
func named(e api.Errno) string {
	switch e {
	case api.OK:
		return "ok"
	case api.ErrArg:
		return "ErrArg"
	case api.ErrNil:
		return "ErrNil"
	case api.ErrFull:
		return "ErrFull"
	case api.ErrClosed:
		return "ErrClosed"
	case api.ErrDeep:
		return "ErrDeep"
	case api.ErrMany:
		return "ErrMany"
	}
	return e.Error()
}

// opens: what is told of a New's answer: its place.
func (w *world) opens(t *gate.Thread, k *token.Token) string {
	s, e := w.kind(t, k)
	if e != api.OK || s == nil {
		if s != nil || e == api.OK {
			return "neither a scope nor an error, or both"
		}
		return named(e)
	}
	w.scopes, w.facts = append(w.scopes, s), append(w.facts, &fact{token: s.Token()})
	return "#" + strconv.Itoa(len(w.scopes)-1)
}

// begins: what is told of a Go's answer: the task's number.
func (w *world) begins(t *gate.Thread, c call) string {
	s, f := w.scope(c.of), w.fact(c.of)
	j := f.begins(c.does)
	var does function
	if c.does != nil {
		does = func(t *gate.Thread, k *token.Token) error {
			f.fault(k != s.Token() || k == nil, "it is called with another token")
			defer j.enters(t)()
			w.called(t, c.does, "")
			return c.does.e
		}
	}
	n, e := s.Go(t, does)
	f.answers(j, n, e)
	if e != api.OK {
		return named(e)
	}
	return strconv.Itoa(n)
}

// waits: what is told of a Wait's answer.
func (w *world) waits(t *gate.Thread, of int) string {
	f := w.fact(of)
	f.shutting = true
	e := w.scope(of).Wait(t)
	f.hears(e)
	return aid.Told(0, e).String()
}

// called: what a function does that is called with that.
func (w *world) called(t *gate.Thread, d *deed, with string) {
	w.story.Tells(t, d.name+"("+with)
	w.makes(t, d.calls...)
	w.story.Tells(t, ")"+d.name)
	if d.falls {
		panic(d.with)
	}
}

// bodies: of threads that make these calls.
func (w *world) bodies(calls [][]call) (l []aid.Body) {
	for _, mine := range calls {
		l = append(l, func(t *gate.Thread) { w.makes(t, mine...) })
	}
	return l
}

// one: the record of calls that one thread makes, and what is told.
func (w *world) one(calls ...call) (api.Report, string) {
	from := len(w.story)
	report := gate.Run(nil, api.MaxTurns, w.bodies([][]call{calls})...)
	return report, w.story[from:].String()
}
