// Package aid is no layer: what the tests of several layers use.
package aid

import (
	"maps"
	"slices"
	"strconv"
	"strings"
	"sync"
	"sync/atomic"

	"treadle/api"
	"treadle/gate"
)

// Body: of a thread.
type Body = func(t *gate.Thread)

// Caught: what f panics with.
func Caught(f func()) (x any) {
	defer func() { x = recover() }()
	f()
	return nil
}

// Beside: so many goroutines that begin together, and are joined.
func Beside(hands int, f func(hand int)) {
	var ready, all sync.WaitGroup
	ready.Add(hands)
	for h := range hands {
		all.Go(func() {
			ready.Done()
			ready.Wait()
			f(h)
		})
	}
	all.Wait()
}

// Together: so many hands that meet so often, and go on from there at one time, where the machine lets them. (Nobody waits for the others: who comes ahead of them is idle, the longer the more of them are behind, and so they keep together.)
func Together(hands, meetings int, f func(hand, i int)) {
	var come atomic.Int64
	Beside(hands, func(h int) {
		for i := range meetings {
			behind := (i+1)*hands - int(come.Add(1))
			idle(min(100*behind, 5000))
			f(h, i)
		}
	})
}

// idle does nothing, in so many steps.
func idle(steps int) {
	for range steps {
	}
}

// Stopped: a thread that was stopped, and the gate's own value with which it was.
func Stopped() (stopped *gate.Thread, own any) {
	var x atomic.Int64
	gate.Run(nil, 0, func(t *gate.Thread) {
		stopped = t
		own = Caught(func() { t.Step(&x, api.OpLoad, 0, 0) })
	})
	return stopped, own
}

// NotLiving: threads by which a call is free.
func NotLiving() map[string]*gate.Thread {
	var ended *gate.Thread
	gate.Run(nil, 0, func(t *gate.Thread) { ended = t })
	stopped, _ := Stopped()
	return map[string]*gate.Thread{"nil": nil, "made by no run": {}, "ended": ended, "stopped": stopped}
}

// FreeThreads: those of NotLiving, always in one order.
func FreeThreads() []*gate.Thread {
	m := NotLiving()
	var l []*gate.Thread
	for _, what := range slices.Sorted(maps.Keys(m)) {
		l = append(l, m[what])
	}
	return l
}

// Every plays all schedules, each as picks of which there are so many, and tells how many there are. play tells how many were ready at each turn.
func Every(turns int, play func(picks []int) (ready []int)) int {
	picks := make([]int, turns)
	for n := 1; ; n++ {
		ready := play(picks)
		k := min(len(ready), turns) - 1
		for k >= 0 && picks[k]+1 >= ready[k] {
			k--
		}
		if k < 0 {
			return n
		}
		picks[k]++
		clear(picks[k+1:])
	}
}

// Text: an entry: who, what, which cell, what was asked: what was; of a Cas whether it was done. Of a mark: who, its number, its kind. Of a Go: who, and the new thread.
func Text(a api.Access) string {
	switch a.Op {
	case api.OpMark:
		return strconv.Itoa(a.Thread) + " mark " + strconv.FormatInt(a.Arg, 10) + " " + strconv.FormatInt(a.New, 10)
	case api.OpGo:
		return strconv.Itoa(a.Thread) + " go: " + strconv.FormatInt(a.Now, 10)
	}
	l := []string{strconv.Itoa(a.Thread), named(a.Op), "c" + strconv.Itoa(a.Cell)}
	if a.Op != api.OpLoad {
		l = append(l, strconv.FormatInt(a.Arg, 10))
	}
	if a.Op == api.OpCas {
		l = append(l, strconv.FormatInt(a.New, 10))
	}
	s := strings.Join(l, " ") + ": " + strconv.FormatInt(a.Was, 10)
	if a.Op != api.OpCas {
		return s
	}
	if a.Ok {
		return s + " ok"
	}
	return s + " no"
}

// Texts: the entries' texts.
func Texts(l []api.Access) string {
	var s []string
	for _, a := range l {
		s = append(s, Text(a))
	}
	return strings.Join(s, "; ")
}

func named(op int8) string {
	names := []string{"none", "load", "store", "cas", "add", "swap", "park", "go", "mark"}
	if op < 0 || int(op) >= len(names) {
		return "none"
	}
	return names[op]
}
