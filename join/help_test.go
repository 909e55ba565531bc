package join_test

import (
	"slices"
	"strconv"
	"strings"
	"testing"
	"time"

	"treadle/aid"
	"treadle/api"
	"treadle/cell"
	"treadle/future"
	"treadle/gate"
	"treadle/join"
)

// inTime: where something goes wrong somebody might sleep, or go round, for ever.
func inTime() (stop func() bool) {
	return time.AfterFunc(2*time.Minute, func() { panic("R1, W3: somebody sleeps on") }).Stop
}

// by calls f with each thread that does not live, and with one that does.
func by(t *testing.T, f func(who string, th *gate.Thread)) {
	t.Helper()
	for _, f := range aid.By(f) {
		t.Errorf("R1: %s", f)
	}
}

// futures: some that others are made of.
type futures = []*future.Future

// joint: the package's, or one of a test's.
type joint interface {
	Future() *future.Future
	Values(t *gate.Thread) ([]int64, error)
}

// kind: what makes futures that hang on others: the package, or a test. A joint that is none is nil.
type kind struct {
	all    func(t *gate.Thread, l ...*future.Future) (joint, api.Errno)
	any    func(t *gate.Thread, l ...*future.Future) (*future.Future, api.Errno)
	quorum func(t *gate.Thread, k int, l ...*future.Future) (*future.Future, api.Errno)
}

// made: by the package.
var made = kind{func(t *gate.Thread, l ...*future.Future) (joint, api.Errno) {
	j, e := join.All(t, l...)
	if j == nil {
		return nil, e
	}
	return j, e
}, join.Any, join.Quorum}

// What a call does.
const (
	allOf = iota
	anyOf
	quorumOf
	values
	complete
	claim
	then
	await
	peek
	add // is an access of the cell that all share
)

// call: of a future, by its place among those that the caller knows; where nothing is, it is nil. One that makes a future is of those in its list; in that -2 is one that package future did not make.
type call struct {
	op, of int
	list   []int
	is     aid.Answer // what it is completed with
	does   *deed      // of a Then
}

func alls(l ...int) call                      { return call{op: allOf, list: l} }
func somes(l ...int) call                     { return call{op: anyOf, list: l} }
func quorums(k int, l ...int) call            { return call{op: quorumOf, of: k, list: l} }
func asks(of int) call                        { return call{op: values, of: of} }
func completes(of int, v int64, e error) call { return call{op: complete, of: of, is: aid.Told(v, e)} }
func claims(of int) call                      { return call{op: claim, of: of} }
func thens(of int, d *deed) call              { return call{op: then, of: of, does: d} }
func awaits(of int) call                      { return call{op: await, of: of} }
func peeks(of int) call                       { return call{op: peek, of: of} }
func adds() call                              { return call{op: add} }

// String: what a call is told of by.
func (c call) String() string {
	what := []string{"all", "any", "quorum", "values", "complete", "claim", "then", "await", "peek", "add"}[c.op]
	if c.op >= quorumOf && c.op != add {
		what += strconv.Itoa(c.of)
	}
	if c.op > quorumOf {
		return what
	}
	l := make([]string, len(c.list))
	for i, of := range c.list {
		l[i] = strconv.Itoa(of)
	}
	return what + "(" + strings.Join(l, ",") + ")"
}

// deed: what a function does: it makes calls, of the futures that who handed it in knew then and of those that it makes, and comes back, or panics with its name.
type deed struct {
	name  string
	calls []call
	falls bool
}

func quiet(name string) *deed                 { return &deed{name: name} }
func busy(name string, calls ...call) *deed   { return &deed{name: name, calls: calls} }
func fallen(name string, calls ...call) *deed { return &deed{name: name, calls: calls, falls: true} }

// String: for the texts of tests that fail.
func (d *deed) String() string {
	if d == nil {
		return "none"
	}
	s := d.name
	for _, c := range d.calls {
		s += " (" + c.text() + ")"
	}
	if d.falls {
		s += " falls"
	}
	return s
}

// text: a call with all that belongs to it.
func (c call) text() string { return c.String() + " " + c.is.String() + " " + c.does.String() }

func texts(calls []call) (l []string) {
	for _, c := range calls {
		l = append(l, c.text())
	}
	return l
}

// world: futures, some of which are made of others by some kind, and what is told of the calls of them. Of its threads one moves at a time.
type world struct {
	kind
	all    futures // by their numbers: those that were there, and then each that is made of others
	joints map[*future.Future]joint
	facts  map[*future.Future]*fact
	x      *cell.Cell
	story  aid.Story
	awake  bool // nobody is there who would wake one who waits
}

// newWorld: of so many futures.
func newWorld(k kind, n int) *world {
	w := &world{kind: k, joints: map[*future.Future]joint{}, facts: map[*future.Future]*fact{}, x: cell.New(0)}
	for range n {
		w.puts(future.New(), &fact{})
	}
	return w
}

// puts: one more future: its number.
func (w *world) puts(x *future.Future, f *fact) int {
	f.x = x
	w.all = append(w.all, x)
	w.facts[x] = f
	return len(w.all) - 1
}

// ours: a world of the package's, in which one alone has made the first calls, free.
func ours(n int, first ...call) *world {
	w := newWorld(made, n)
	w.alone(first...)
	return w
}

// alone makes the calls, free; nobody else is there: what is told then.
func (w *world) alone(calls ...call) string {
	was := w.awake
	w.awake = true
	s := w.makes(nil, calls...)
	w.awake = was
	return s
}

// hand: what somebody knows: futures, in the order in which he came to know them.
type hand struct{ row futures }

// hand: of somebody who knows all futures.
func (w *world) hand() *hand { return &hand{slices.Clone(w.all)} }

// at: the future with this place.
func (k *hand) at(of int) *future.Future {
	switch {
	case of == -2:
		return new(future.Future)
	case of < 0 || of >= len(k.row):
		return nil
	}
	return k.row[of]
}

// makes makes the calls, one behind the other, by somebody who knows all futures: what is told then.
func (w *world) makes(t *gate.Thread, calls ...call) string {
	from := len(w.story)
	k := w.hand()
	for _, c := range calls {
		w.does(t, k, c)
	}
	return w.story[from:].String()
}

// does makes a call. The panic of a deed is caught; the gate's own is not.
func (w *world) does(t *gate.Thread, k *hand, c call) {
	defer func() {
		switch x := recover().(type) {
		case nil:
		case string:
			w.story.Tells(t, c.String()+":fell:"+x)
		default:
			panic(x)
		}
	}()
	w.story.Tells(t, c.String()+":"+w.said(t, k, c))
}

// said: what is told of a call's answer.
func (w *world) said(t *gate.Thread, k *hand, c call) string {
	x := k.at(c.of)
	switch c.op {
	case allOf, anyOf, quorumOf:
		return w.joins(t, k, c)
	case values:
		return w.asks(t, x)
	case complete:
		w.fact(x).tries(c.is)
		return aid.Yes(x.Complete(t, c.is.V, c.is.E))
	case claim:
		w.fact(x).outside = true
		return aid.Yes(x.Claim(t) != nil)
	case then:
		return w.thens(t, k, c)
	case await:
		return w.awaits(t, x)
	case peek:
		return w.peeks(t, x)
	}
	return strconv.FormatInt(w.x.Add(t, 1), 10)
}

// joins: what is told of a future that is made of others.
func (w *world) joins(t *gate.Thread, k *hand, c call) string {
	var l futures
	h := &hung{op: c.op, k: c.of}
	for _, of := range c.list {
		l = append(l, k.at(of))
		h.on = append(h.on, w.fact(k.at(of)))
	}
	var j joint
	var g *future.Future
	var e api.Errno
	switch c.op {
	case allOf:
		if j, e = w.kind.all(t, l...); j != nil {
			g = j.Future()
		}
	case anyOf:
		g, e = w.any(t, l...)
	default:
		g, e = w.quorum(t, c.of, l...)
	}
	switch {
	case (g == nil) != (e != api.OK) || j != nil && g == nil:
		return "neither a future nor an error, or both"
	case g == nil:
		return named(e)
	case w.facts[g] != nil:
		return "a future that was there"
	}
	if j != nil {
		w.joints[g] = j
	}
	k.row = append(k.row, g)
	return "#" + strconv.Itoa(w.puts(g, &fact{from: h}))
}

// named: an error, by the chapter's name.
func named(e api.Errno) string {
	switch e {
	case api.ErrArg:
		return "ErrArg"
	case api.ErrNil:
		return "ErrNil"
	case api.ErrFull:
		return "ErrFull"
	case api.ErrNone:
		return "ErrNone"
	}
	return e.Error()
}

// asks: what is told of the values of a joint, by its future. Other futures have none.
func (w *world) asks(t *gate.Thread, x *future.Future) string {
	j := w.joints[x]
	if j == nil {
		_, e := (*join.Joint)(nil).Values(t)
		return aid.Told(0, e).String()
	}
	if w.sleeps(x) {
		return "sleeps"
	}
	defer inTime()()
	l, e := j.Values(t)
	if w.fact(x).asked(l, e); e != nil {
		return aid.Told(int64(len(l)), e).String()
	}
	return listed(l)
}

func listed(l []int64) string {
	s := make([]string, len(l))
	for i, v := range l {
		s[i] = strconv.FormatInt(v, 10)
	}
	return "[" + strings.Join(s, ",") + "]"
}

// sleeps: whether who awaits it now sleeps for good.
func (w *world) sleeps(x *future.Future) bool {
	if !w.awake || w.facts[x] == nil {
		return false
	}
	_, _, done := x.Peek(nil)
	return !done
}

func (w *world) awaits(t *gate.Thread, x *future.Future) string {
	if w.sleeps(x) {
		return "sleeps"
	}
	defer inTime()()
	a := aid.Told(x.Await(t))
	w.fact(x).hears(a)
	return a.String()
}

func (w *world) peeks(t *gate.Thread, x *future.Future) string {
	v, e, done := x.Peek(t)
	if !done {
		return "none"
	}
	a := aid.Told(v, e)
	w.fact(x).hears(a)
	return a.String()
}

// thens: what is told of a Then's answer.
func (w *world) thens(t *gate.Thread, k *hand, c call) string {
	x, d := k.at(c.of), c.does
	row, was := slices.Clone(k.row), w.fact(x)
	called := 0
	e := x.Then(t, func(t *gate.Thread, v int64, err error) {
		a := aid.Told(v, err)
		called++
		was.hears(a)
		was.fault(called > 1, "a function is called twice")
		w.story.Tells(t, d.name+":"+a.String()+"(")
		own := &hand{slices.Clone(row)}
		for _, c := range d.calls {
			w.does(t, own, c)
		}
		if d.falls {
			panic(d.name)
		}
		w.story.Tells(t, ")")
	})
	if e == api.OK {
		return "ok"
	}
	return named(e)
}

// bodies: of threads that make these calls, each knowing the futures that are there by now.
func (w *world) bodies(calls [][]call) (l []aid.Body) {
	for _, mine := range calls {
		k := w.hand()
		l = append(l, func(t *gate.Thread) {
			for _, c := range mine {
				w.does(t, k, c)
			}
		})
	}
	return l
}

// one: the record of calls that one thread makes, and what it is told.
func (w *world) one(calls ...call) (api.Report, string) {
	from := len(w.story)
	report := gate.Run(nil, api.MaxTurns, w.bodies([][]call{calls})...)
	return report, w.story[from:].String()
}

// cameTo: what each future came to; nobody else is there.
func (w *world) cameTo() string {
	var calls []call
	for i := range w.all {
		calls = append(calls, peeks(i))
	}
	return w.alone(calls...)
}
