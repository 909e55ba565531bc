package memo_test

import (
	"strconv"
	"strings"
	"testing"
	"time"

	"treadle/aid"
	"treadle/api"
	"treadle/cell"
	"treadle/gate"
	"treadle/memo"
)

// inTime: where something goes wrong somebody might sleep, or go round, for ever.
func inTime() (stop func() bool) {
	return time.AfterFunc(2*time.Minute, func() { panic("R1, W3: somebody sleeps on") }).Stop
}

// by calls f with each thread that does not live, and with one that does.
func by(t *testing.T, f func(who string, th *gate.Thread)) {
	t.Helper()
	for _, f := range aid.By(f) {
		t.Errorf("R1: %s", f)
	}
}

// function: a build.
type function = func(t *gate.Thread) (int64, error)

// kind: of memos: the package's, or those of a test.
type kind interface {
	Get(t *gate.Thread, key int64, build func(t *gate.Thread) (int64, error)) (v int64, err error, built bool)
	Keys(t *gate.Thread) []int64
}

// made: by the package.
func made(size int) kind { return memo.New(size) }

// What a call does.
const (
	get  = iota
	list // is a Keys
	add  // is an access of the cell that all share
	grab // is one, too, and goes on where it is stopped
)

// call: of a memo, by its place; where nothing is, it is nil.
type call struct {
	op, of int
	key    int64
	does   *deed
}

func gets(key int64, d *deed) call           { return call{op: get, key: key, does: d} }
func getsOf(of int, key int64, d *deed) call { return call{op: get, of: of, key: key, does: d} }
func lists(of int) call                      { return call{op: list, of: of} }
func adds() call                             { return call{op: add} }
func grabs() call                            { return call{op: grab} }

// String: what a call is told of by.
func (c call) String() string {
	of := ""
	if c.of != 0 {
		of = "@" + strconv.Itoa(c.of)
	}
	switch c.op {
	case get:
		return "get" + strconv.FormatInt(c.key, 10) + of
	case list:
		return "keys" + of
	}
	return []string{"add", "grab"}[c.op-add]
}

// deed: what a build does: it makes calls, and then answers, or panics with its name.
type deed struct {
	name  string
	calls []call
	falls bool
	is    aid.Answer
}

func gives(name string, v int64, calls ...call) *deed {
	return &deed{name: name, calls: calls, is: aid.Told(v, nil)}
}
func fails(name string, e error, calls ...call) *deed {
	return &deed{name: name, calls: calls, is: aid.Told(7, e)}
}
func fallen(name string, calls ...call) *deed { return &deed{name: name, calls: calls, falls: true} }

// String: for the texts of tests that fail.
func (d *deed) String() string {
	if d == nil {
		return "none"
	}
	s := d.name + "+" + d.is.String()
	for _, c := range d.calls {
		s += " (" + c.text() + ")"
	}
	if d.falls {
		s += " falls"
	}
	return s
}

// text: a call with all that belongs to it.
func (c call) text() string { return c.String() + " " + c.does.String() }

func texts(calls []call) (l []string) {
	for _, c := range calls {
		l = append(l, c.text())
	}
	return l
}

// world: memos of some kind, and what is told of the calls of them. Of its threads one moves at a time.
type world struct {
	memos []kind
	sizes []int
	x     *cell.Cell
	story aid.Story
	facts map[asked]*fact
	awake bool // nobody is there who would wake one who sleeps
}

// newWorld: of memos of these sizes.
func newWorld(makes func(size int) kind, sizes ...int) *world {
	w := &world{sizes: sizes, x: cell.New(0), facts: map[asked]*fact{}}
	for _, n := range sizes {
		w.memos = append(w.memos, makes(n))
	}
	return w
}

// ours: a world of one memo of the package's, in which one alone has made the first calls, free.
func ours(size int, first ...call) *world {
	w := newWorld(made, size)
	w.alone(first...)
	return w
}

func (w *world) memo(of int) kind {
	if of < 0 || of >= len(w.memos) {
		return (*memo.Memo)(nil)
	}
	return w.memos[of]
}

// alone makes the calls, free; nobody else is there: what is told then.
func (w *world) alone(calls ...call) string {
	was := w.awake
	w.awake = true
	s := w.makes(nil, calls...)
	w.awake = was
	return s
}

// makes makes the calls, one behind the other: what is told then.
func (w *world) makes(t *gate.Thread, calls ...call) string {
	from := len(w.story)
	for _, c := range calls {
		w.story.Tells(t, c.String()+":"+w.said(t, c))
	}
	return w.story[from:].String()
}

// said: what is told of a call's answer.
func (w *world) said(t *gate.Thread, c call) string {
	switch c.op {
	case get:
		return w.gets(t, c)
	case list:
		return keys(w.memo(c.of).Keys(t))
	case grab:
		said := "stopped"
		_ = aid.Caught(func() { said = w.said(t, adds()) })
		return said
	}
	return strconv.FormatInt(w.x.Add(t, 1), 10)
}

// keys: a list of keys, by its text.
func keys(l []int64) string {
	s := make([]string, len(l))
	for i, k := range l {
		s[i] = strconv.FormatInt(k, 10)
	}
	return "[" + strings.Join(s, ",") + "]"
}

func (w *world) gets(t *gate.Thread, c call) string {
	m, f := w.memo(c.of), w.fact(c)
	if w.awake && f.begun == 1 && w.sleeps(c) {
		return "sleeps"
	}
	defer inTime()()
	v, e, built := m.Get(t, c.key, w.function(c, f))
	a := aid.Told(v, e)
	f.hears(a, built)
	if built {
		return "built:" + a.String()
	}
	return a.String()
}

// sleeps: whether a Get of a key that is claimed sleeps for good, if nobody else is there. (It changes nothing.)
func (w *world) sleeps(c call) bool {
	r := gate.Run(nil, api.MaxTurns, func(t *gate.Thread) {
		w.memo(c.of).Get(t, c.key, func(*gate.Thread) (int64, error) { panic("it is claimed") })
	})
	return r.End == api.Dead
}

// function: the build of a Get.
func (w *world) function(c call, f *fact) function {
	d := c.does
	if d == nil {
		return nil
	}
	return func(t *gate.Thread) (int64, error) {
		f.begun++
		w.story.Tells(t, d.name+"(")
		w.makes(t, d.calls...)
		w.story.Tells(t, ")")
		f.over++
		f.is = d.comesTo()
		if d.falls {
			panic(d.name)
		}
		return d.is.V, d.is.E
	}
}

// bodies: of threads that make these calls.
func (w *world) bodies(calls [][]call) (l []aid.Body) {
	for _, mine := range calls {
		l = append(l, func(t *gate.Thread) { w.makes(t, mine...) })
	}
	return l
}

// one: the record of calls that one thread makes, and what it is told.
func (w *world) one(calls ...call) (api.Report, string) {
	from := len(w.story)
	report := gate.Run(nil, api.MaxTurns, w.bodies([][]call{calls})...)
	return report, w.story[from:].String()
}
