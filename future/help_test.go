package future_test

import (
	"slices"
	"strconv"
	"testing"
	"time"

	"treadle/aid"
	"treadle/api"
	"treadle/cell"
	"treadle/future"
	"treadle/gate"
)

// inTime: where something goes wrong somebody might sleep, or go round, for ever.
func inTime() (stop func() bool) {
	return time.AfterFunc(2*time.Minute, func() { panic("R1, W3: somebody sleeps on") }).Stop
}

// by calls f with each thread that does not live, and with one that does.
func by(t *testing.T, f func(who string, th *gate.Thread)) {
	t.Helper()
	for _, f := range aid.By(f) {
		t.Errorf("R1: %s", f)
	}
}

// function: of a Then; change: of a Map.
type (
	function = func(t *gate.Thread, v int64, err error)
	change   = func(v int64) (int64, error)
)

// kind: of futures: the package's, or those of a test; and of their promises.
type kind[F, P any] interface {
	comparable
	Claim(t *gate.Thread) P
	Complete(t *gate.Thread, v int64, err error) bool
	Then(t *gate.Thread, f func(t *gate.Thread, v int64, err error)) api.Errno
	Await(t *gate.Thread) (int64, error)
	Peek(t *gate.Thread) (v int64, err error, done bool)
	Map(t *gate.Thread, f func(v int64) (int64, error)) (F, api.Errno)
}

type pledge interface {
	comparable
	Fill(t *gate.Thread, v int64, err error) bool
}

// What a call does.
const (
	claim = iota
	fill
	complete
	then
	await
	peek
	alter // is a Map
	add   // is an access of the cell that all share
)

// call: of a future, by its place among those that the caller knows; where nothing is, it is nil. A Fill is of the promise that the caller has of it.
type call struct {
	op, of int
	is     aid.Answer // what it is filled with
	does   *deed      // of a Then, or of a Map
}

func claims(of int) call                      { return call{op: claim, of: of} }
func fills(of int, v int64, e error) call     { return call{op: fill, of: of, is: aid.Told(v, e)} }
func completes(of int, v int64, e error) call { return call{op: complete, of: of, is: aid.Told(v, e)} }
func thens(of int, d *deed) call              { return call{op: then, of: of, does: d} }
func awaits(of int) call                      { return call{op: await, of: of} }
func peeks(of int) call                       { return call{op: peek, of: of} }
func alters(of int, d *deed) call             { return call{op: alter, of: of, does: d} }
func adds() call                              { return call{op: add} }

// String: what a call is told of by.
func (c call) String() string {
	if c.op == add {
		return "add"
	}
	return []string{"claim", "fill", "complete", "then", "await", "peek", "map"}[c.op] + strconv.Itoa(c.of)
}

// deed: what a function does. That of a Then makes calls, of the futures that who handed it in knew then and of those that it makes, and comes back, or panics with its name. That of a Map adds to the value, fails, or panics with its name.
type deed struct {
	name  string
	calls []call
	falls bool
	is    aid.Answer
}

func quiet(name string) *deed                 { return &deed{name: name} }
func busy(name string, calls ...call) *deed   { return &deed{name: name, calls: calls} }
func fallen(name string, calls ...call) *deed { return &deed{name: name, calls: calls, falls: true} }
func plus(name string, v int64) *deed         { return &deed{name: name, is: aid.Told(v, nil)} }
func fails(name string, e error) *deed        { return &deed{name: name, is: aid.Told(7, e)} }

// String: for the texts of tests that fail.
func (d *deed) String() string {
	if d == nil {
		return "none"
	}
	s := d.name + "+" + d.is.String()
	for _, c := range d.calls {
		s += " (" + c.text() + ")"
	}
	if d.falls {
		s += " falls"
	}
	return s
}

// text: a call with all that belongs to it.
func (c call) text() string { return c.String() + " " + c.is.String() + " " + c.does.String() }

func texts(calls []call) (l []string) {
	for _, c := range calls {
		l = append(l, c.text())
	}
	return l
}

// world: futures of some kind, and what is told of the calls of them. Of its threads one moves at a time.
type world[F kind[F, P], P pledge] struct {
	all   []F // by their numbers: those that were there, and then each that a Map answered
	x     *cell.Cell
	story aid.Story
	facts map[F]*fact
	wants []*want[F]
	awake bool // nobody is there who would wake one who waits
}

// newWorld: of so many futures.
func newWorld[F kind[F, P], P pledge](makes func() F, n int) *world[F, P] {
	w := &world[F, P]{x: cell.New(0), facts: map[F]*fact{}}
	for range n {
		w.all = append(w.all, makes())
	}
	for _, x := range w.all {
		w.facts[x] = &fact{}
	}
	return w
}

// ours: a world of the package's futures, in which one alone has made the first calls, free.
func ours(n int, first ...call) *world[*future.Future, *future.Promise] {
	w := newWorld[*future.Future, *future.Promise](future.New, n)
	w.awake = true
	w.makes(nil, first...)
	w.awake = false
	return w
}

// hand: what somebody has: the futures that he knows, in the order in which he came to know them, and his promises, by their futures' places.
type hand[F, P any] struct {
	row []F
	has map[int]P
}

// hand: of somebody who knows all futures.
func (w *world[F, P]) hand() *hand[F, P] { return &hand[F, P]{slices.Clone(w.all), map[int]P{}} }

// at: the future with this place, nil if nothing is there.
func (k *hand[F, P]) at(of int) (x F) {
	if of >= 0 && of < len(k.row) {
		x = k.row[of]
	}
	return x
}

// makes makes the calls, one behind the other, by somebody who knows all futures: what is told then.
func (w *world[F, P]) makes(t *gate.Thread, calls ...call) string {
	from := len(w.story)
	k := w.hand()
	for _, c := range calls {
		w.does(t, k, c)
	}
	return w.story[from:].String()
}

// does makes a call. The panic of a deed is caught; the gate's own is not.
func (w *world[F, P]) does(t *gate.Thread, k *hand[F, P], c call) {
	defer func() {
		switch x := recover().(type) {
		case nil:
		case string:
			w.story.Tells(t, c.String()+":fell:"+x)
		default:
			panic(x)
		}
	}()
	w.story.Tells(t, c.String()+":"+w.said(t, k, c))
}

// said: what is told of a call's answer.
func (w *world[F, P]) said(t *gate.Thread, k *hand[F, P], c call) string {
	var none P
	x := k.at(c.of)
	switch f := w.fact(x); c.op {
	case claim:
		p := x.Claim(t)
		f.claims(p != none)
		k.has[c.of] = p
		return aid.Yes(p != none)
	case fill:
		f.tried = append(f.tried, plain(c.is))
		return aid.Yes(f.fills(k.has[c.of].Fill(t, c.is.V, c.is.E)))
	case complete:
		f.tried = append(f.tried, plain(c.is))
		done := x.Complete(t, c.is.V, c.is.E)
		f.claims(done)
		return aid.Yes(f.fills(done))
	case then:
		return w.thens(t, k, c)
	case alter:
		return w.alters(t, k, c)
	case await:
		return w.awaits(t, x)
	case peek:
		return w.peeks(t, x)
	}
	return strconv.FormatInt(w.x.Add(t, 1), 10)
}

// plain: what one comes to that is filled so.
func plain(a aid.Answer) aid.Answer {
	if a.E != nil {
		a.V = 0
	}
	return a
}

func (w *world[F, P]) awaits(t *gate.Thread, x F) string {
	if w.awake && w.facts[x] != nil {
		if _, _, done := x.Peek(nil); !done {
			return "sleeps"
		}
	}
	defer inTime()()
	a := aid.Told(x.Await(t))
	w.fact(x).hears(a)
	return a.String()
}

func (w *world[F, P]) peeks(t *gate.Thread, x F) string {
	v, e, done := x.Peek(t)
	if !done && v == 0 && e == nil {
		return "none"
	}
	a := aid.Told(v, e)
	if w.fact(x).hears(a); !done {
		return "none, but " + a.String()
	}
	return a.String()
}

// named: an error, by the chapter's name.
func named(e api.Errno) string {
	switch e {
	case api.OK:
		return "ok"
	case api.ErrArg:
		return "ErrArg"
	case api.ErrNil:
		return "ErrNil"
	case api.ErrFull:
		return "ErrFull"
	}
	return e.Error()
}

// thens: what is told of a Then's answer.
func (w *world[F, P]) thens(t *gate.Thread, k *hand[F, P], c call) string {
	x, d := k.at(c.of), c.does
	if d == nil {
		return named(x.Then(t, nil))
	}
	row, f, was := slices.Clone(k.row), &want[F]{of: x}, w.fact(x)
	w.wants = append(w.wants, f)
	e := x.Then(t, func(t *gate.Thread, v int64, err error) {
		a := aid.Told(v, err)
		f.called++
		was.hears(a)
		w.story.Tells(t, d.name+":"+a.String()+"(")
		own := &hand[F, P]{slices.Clone(row), map[int]P{}}
		for _, c := range d.calls {
			w.does(t, own, c)
		}
		if d.falls {
			panic(d.name)
		}
		w.story.Tells(t, ")")
	})
	f.refused = e != api.OK
	return named(e)
}

// alters: what is told of a Map's answer. Nobody knows which thread calls its function.
func (w *world[F, P]) alters(t *gate.Thread, k *hand[F, P], c call) string {
	var none F
	x, d := k.at(c.of), c.does
	if d == nil {
		g, e := x.Map(t, nil)
		return named(e) + map[bool]string{false: " beside a future"}[g == none]
	}
	was, f := w.fact(x), &want[F]{of: x, maps: true}
	is := &fact{from: was}
	w.wants = append(w.wants, f)
	g, e := x.Map(t, func(v int64) (int64, error) {
		f.called++
		was.hears(aid.Told(v, nil))
		is.tried = append(is.tried, d.comesTo(v))
		w.story.Tells(nil, d.name+":"+strconv.FormatInt(v, 10))
		if d.falls {
			panic(d.name)
		}
		return v + d.is.V, d.is.E
	})
	f.refused = e != api.OK
	switch {
	case (g == none) != (e != api.OK):
		return "neither a future nor an error, or both"
	case e != api.OK:
		return named(e)
	case w.facts[g] != nil:
		return "a future that was there"
	}
	w.all, k.row = append(w.all, g), append(k.row, g)
	w.facts[g] = is
	return "#" + strconv.Itoa(len(w.all)-1)
}

// bodies: of threads that make these calls, each knowing the futures that are there by now.
func (w *world[F, P]) bodies(calls [][]call) (l []aid.Body) {
	for _, mine := range calls {
		k := w.hand()
		l = append(l, func(t *gate.Thread) {
			for _, c := range mine {
				w.does(t, k, c)
			}
		})
	}
	return l
}

// alone: the record of calls that one thread makes, and what it is told.
func alone[F kind[F, P], P pledge](w *world[F, P], calls ...call) (api.Report, string) {
	from := len(w.story)
	report := gate.Run(nil, api.MaxTurns, w.bodies([][]call{calls})...)
	return report, w.story[from:].String()
}

// cameTo: what each future came to; nobody else is there.
func (w *world[F, P]) cameTo() string {
	var calls []call
	for i := range w.all {
		calls = append(calls, peeks(i))
	}
	return w.makes(nil, calls...)
}
