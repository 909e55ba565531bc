package gate_test

import (
	"slices"
	"strconv"
	"strings"
	"sync/atomic"
	"testing"

	"treadle/api"
	"treadle/gate"
)

type body = func(t *gate.Thread)

// all: a body that does these, one behind the other.
func all(l ...body) body {
	return func(t *gate.Thread) {
		for _, f := range l {
			f(t)
		}
	}
}

func step(v *atomic.Int64, op int8, arg, next int64) body {
	return func(t *gate.Thread) { t.Step(v, op, arg, next) }
}

func load(v *atomic.Int64) body             { return step(v, api.OpLoad, 0, 0) }
func store(v *atomic.Int64, arg int64) body { return step(v, api.OpStore, arg, 0) }
func add(v *atomic.Int64, arg int64) body   { return step(v, api.OpAdd, arg, 0) }
func park(v *atomic.Int64, arg int64) body  { return step(v, api.OpPark, arg, 0) }

func cas(v *atomic.Int64, arg, next int64) body { return step(v, api.OpCas, arg, next) }

func begins(f body) body        { return func(t *gate.Thread) { t.Go(f) } }
func marks(a, b int64) body     { return func(t *gate.Thread) { t.Mark(a, b) } }
func falls(x any) body          { return func(t *gate.Thread) { panic(x) } }
func many(n int, f body) []body { return slices.Repeat([]body{f}, n) }

// goesOn: the thread recovers the gate's own panic, which is counted, and goes on.
func goesOn(seen *int, f body) body {
	return func(t *gate.Thread) {
		defer func() {
			if gate.Is(recover()) {
				*seen++
			}
		}()
		f(t)
	}
}

var names = []string{"?", "L", "S", "C", "A", "W", "P", "Go", "mark"}

// text: an entry as the chapter's table writes it.
func text(a api.Access) string {
	var l []string
	for _, n := range []int64{int64(a.Cell), a.Arg, a.New, a.Was, a.Now} {
		l = append(l, strconv.FormatInt(n, 10))
	}
	s := strconv.Itoa(a.Thread) + " " + names[a.Op] + " " + strings.Join(l[:3], " ") + ": " + strings.Join(l[3:], " ")
	if a.Ok {
		s += " ok"
	}
	return s
}

func texts(l []api.Access) string {
	var s []string
	for _, a := range l {
		s = append(s, text(a))
	}
	return strings.Join(s, "; ")
}

// told: a report as text, so that an empty list and none are one.
func told(r api.Report) string {
	var l []string
	for _, n := range [][]int{{int(r.End), r.Turns}, r.Went, r.Ready, r.Fell} {
		s := ""
		for _, x := range n {
			s += strconv.Itoa(x) + " "
		}
		l = append(l, s)
	}
	return "end " + l[0] + "| log " + texts(r.Log) + " | went " + l[1] + "| ready " + l[2] + "| left " + texts(r.Left) + " | fell " + l[3]
}

func same(t *testing.T, what string, got, want api.Report) {
	t.Helper()
	if told(got) != told(want) {
		t.Errorf("%s:\n got %s\nwant %s", what, told(got), told(want))
	}
}

// isZero: whether the report is zero, but that lists may be empty.
func isZero(r api.Report) bool { return told(r) == told(api.Report{}) }
