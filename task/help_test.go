package task_test

import (
	"errors"
	"slices"
	"strconv"
	"time"

	"treadle/aid"
	"treadle/api"
	"treadle/cell"
	"treadle/gate"
	"treadle/task"
	"treadle/token"
)

// inTime: where something goes wrong somebody might sleep, or go round, for ever.
func inTime() (stop func() bool) {
	return time.AfterFunc(2*time.Minute, func() { panic("R1, W3: somebody sleeps on") }).Stop
}

// kind: of tasks: the package's, or those of a test.
type kind interface {
	Number() int64
	Run(t *gate.Thread) bool
	Cancel(t *gate.Thread, reason int64) bool
	Wait(t *gate.Thread) (int64, error)
	State(t *gate.Thread) int
}

// function: of a task.
type function = func(t *gate.Thread) (int64, error)

// made: by the package.
func made(number int64, k *token.Token, f function) kind { return task.New(number, k, f) }

// What a call does.
const (
	run = iota
	cancel
	wait
	ask
	stop // cancels a token
	add  // is an access of the cell that all share
	grab // is one, too, and goes on where it is stopped
)

// call: of a task, or of a token, by its place; where nothing is, it is nil. n is the reason.
type call struct {
	op, of int
	n      int64
}

func runs(of int) call             { return call{op: run, of: of} }
func cancels(of int, n int64) call { return call{op: cancel, of: of, n: n} }
func waits(of int) call            { return call{op: wait, of: of} }
func asks(of int) call             { return call{op: ask, of: of} }
func stops(of int, n int64) call   { return call{op: stop, of: of, n: n} }
func adds() call                   { return call{op: add} }
func grabs() call                  { return call{op: grab} }

// String: what a call is told of by.
func (c call) String() string {
	if c.op == add || c.op == grab {
		return []string{"add", "grab"}[c.op-add]
	}
	return []string{"run", "cancel", "wait", "state", "stop"}[c.op] + strconv.Itoa(c.of)
}

// deed: what a task's function does: it makes calls, and then answers, or panics.
type deed struct {
	calls []call
	v     int64
	e     error
	falls bool
	with  any
}

func fine(v int64, calls ...call) deed   { return deed{calls: calls, v: v} }
func failed(e error, calls ...call) deed { return deed{calls: calls, v: 5, e: e} }
func fallen(x any, calls ...call) deed   { return deed{calls: calls, falls: true, with: x} }

// spec: of a task. Where no token has that place, the task has none.
type spec struct {
	number int64
	token  int
	does   deed
}

// none: no token.
const none = -1

// plan: of a world: its tokens and its tasks, and the calls that one alone makes ahead of all others.
type plan struct {
	tokens int
	tasks  []spec
	first  []call
}

// one: a plan of one task without a token.
func one(d deed, first ...call) plan {
	return plan{tasks: []spec{{7, none, d}}, first: first}
}

// held: a plan of one task with a token.
func held(d deed, first ...call) plan {
	return plan{tokens: 1, tasks: []spec{{7, 0, d}}, first: first}
}

// world: tasks of some kind, and what is told of the calls of them. Of its threads one moves at a time.
type world struct {
	tasks  []kind
	tokens []*token.Token
	x      *cell.Cell
	story  aid.Story
	facts  []fact
	awake  bool // nobody is there who would wake one who waits
	faults []string
}

// fact: what is noticed of a task.
type fact struct {
	begun, over   int // how often its function is called; how often it has answered, or panicked
	runs, cancels int // how many of them answered true
	told          []aid.Answer
}

// build: a world of this plan, ahead of its first calls.
func (p plan) build(makes func(number int64, k *token.Token, f function) kind) *world {
	w := &world{x: cell.New(0), facts: make([]fact, len(p.tasks))}
	for range p.tokens {
		w.tokens = append(w.tokens, token.New())
	}
	for i, s := range p.tasks {
		w.tasks = append(w.tasks, makes(s.number, w.token(s.token), w.function(i, s.does)))
	}
	return w
}

// world: of the package's tasks, in which one alone has made the first calls, free.
func (p plan) world() *world {
	w := p.build(made)
	w.awake = true
	w.makes(nil, p.first...)
	w.awake = false
	return w
}

func (w *world) token(of int) *token.Token {
	if of < 0 || of >= len(w.tokens) {
		return nil
	}
	return w.tokens[of]
}

func (w *world) task(of int) kind {
	if of < 0 || of >= len(w.tasks) {
		return (*task.Task)(nil)
	}
	return w.tasks[of]
}

// makes makes the calls, one behind the other: what is told then.
func (w *world) makes(t *gate.Thread, calls ...call) string {
	from := len(w.story)
	for _, c := range calls {
		w.does(t, c)
	}
	return w.story[from:].String()
}

// does makes a call.
func (w *world) does(t *gate.Thread, c call) {
	x, said := w.task(c.of), ""
	switch c.op {
	case run:
		ok := x.Run(t)
		w.counts(c.of, func(f *fact) { f.runs += aid.Digit(ok) })
		said = aid.Yes(ok)
	case cancel:
		ok := x.Cancel(t, c.n)
		w.counts(c.of, func(f *fact) { f.cancels += aid.Digit(ok) })
		said = aid.Yes(ok)
	case wait:
		said = w.waits(t, c.of)
	case ask:
		said = strconv.Itoa(x.State(t))
	case stop:
		said = aid.Yes(w.token(c.of).Cancel(t, c.n))
	case add:
		said = strconv.FormatInt(w.x.Add(t, 1), 10)
	case grab:
		said = "stopped"
		_ = aid.Caught(func() { said = strconv.FormatInt(w.x.Add(t, 1), 10) })
	}
	w.story.Tells(t, c.String()+":"+said)
}

func (w *world) waits(t *gate.Thread, of int) string {
	x := w.task(of)
	if w.awake && of >= 0 && of < len(w.tasks) && x.State(nil) < task.Ended {
		return "sleeps"
	}
	defer inTime()()
	a := aid.Told(x.Wait(t))
	w.counts(of, func(f *fact) {
		if f.told = append(f.told, a); f.begun != f.over {
			w.faults = append(w.faults, "what follows: a Wait answers ahead of the end")
		}
	})
	return a.String()
}

// counts notices something of a task that is one.
func (w *world) counts(of int, notices func(f *fact)) {
	if of >= 0 && of < len(w.facts) {
		notices(&w.facts[of])
	}
}

// function: of the task with this place.
func (w *world) function(of int, d deed) function {
	return func(t *gate.Thread) (int64, error) {
		f := &w.facts[of]
		f.begun++
		w.story.Tells(t, "f"+strconv.Itoa(of)+"(")
		for _, c := range d.calls {
			w.does(t, c)
		}
		w.story.Tells(t, ")")
		f.over++
		if d.falls {
			panic(d.with)
		}
		return d.v, d.e
	}
}

// bodies: of threads that make these calls.
func (w *world) bodies(calls [][]call) (l []func(t *gate.Thread)) {
	for _, mine := range calls {
		l = append(l, func(t *gate.Thread) { w.makes(t, mine...) })
	}
	return l
}

// alone: the record of calls that one thread makes, and what it is told.
func (w *world) alone(calls ...call) (api.Report, string) {
	from := len(w.story)
	report := gate.Run(nil, api.MaxTurns, w.bodies([][]call{calls})...)
	return report, w.story[from:].String()
}

// follows: what is found that does not follow: of what was noticed of the tasks, and in the marks of a record (none of which has another's number).
func (w *world) follows(log []api.Access) []string {
	l := slices.Clone(w.faults)
	fault := func(is bool, what string, of int) {
		if is {
			l = append(l, "what follows: "+what+": the task "+strconv.Itoa(of))
		}
	}
	for i, f := range w.facts {
		fault(f.begun > 1, "its function is called twice", i)
		fault(f.runs+f.cancels > 1, "two are told that they did it", i)
		fault(f.runs == 1 && f.over != 1, "it is run, but its function has not ended", i)
		fault(f.cancels == 1 && f.begun != 0, "it is cancelled, and run", i)
		fault(slices.ContainsFunc(f.told, func(a aid.Answer) bool { return a != f.told[0] }), "two are told unlike things", i)
		for _, a := range f.told {
			fault(f.begun == 0 && !errors.Is(a.E, api.ErrCancelled), "it is not found as cancelled", i)
			fault(a.E != nil && a.V != 0, "a value beside an error", i)
		}
		fault(!slices.Contains([]string{"", " 2", " 2 3", " 4"}, w.marks(log, i)), "its marks are"+w.marks(log, i), i)
	}
	return l
}

// marks: the kinds of a task's marks; those of another thread than the first one's are told besides.
func (w *world) marks(log []api.Access, of int) (s string) {
	first := none
	for _, a := range log {
		if a.Op != api.OpMark || a.Arg != w.tasks[of].Number() {
			continue
		}
		if s += " " + strconv.FormatInt(a.New, 10); first == none {
			first = a.Thread
		}
		if a.Thread != first {
			s += " by another"
		}
	}
	return s
}
