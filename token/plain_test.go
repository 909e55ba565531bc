package token_test

import (
	"math"
	"math/rand"
	"slices"
	"strconv"
	"strings"
	"testing"

	"treadle/aid"
	"treadle/api"
	"treadle/gate"
)

// plain: a token that one alone calls: by what the chapter promises, without steps.
type plain struct {
	depth  int
	reason int64
	given  int
	parts  []func(t *gate.Thread, reason int64) // of a child: its Cancel
}

func (k *plain) Child(*gate.Thread) (*plain, api.Errno) {
	if k == nil {
		return nil, api.ErrNil
	}
	if k.depth == 64 {
		return nil, api.ErrDeep
	}
	x := &plain{depth: k.depth + 1, reason: k.reason}
	if k.reason == 0 && !k.takes(func(t *gate.Thread, reason int64) { x.Cancel(t, reason) }) {
		return nil, api.ErrFull
	}
	return x, api.OK
}

func (k *plain) OnCancel(t *gate.Thread, f func(t *gate.Thread, reason int64)) api.Errno {
	switch {
	case k == nil:
		return api.ErrNil
	case f == nil:
		return api.ErrArg
	case k.reason != 0:
		f(t, k.reason)
	case !k.takes(f):
		return api.ErrFull
	}
	return api.OK
}

func (k *plain) takes(f func(t *gate.Thread, reason int64)) bool {
	if len(k.parts) == 64 {
		return false
	}
	k.parts = append(k.parts, f)
	return true
}

func (k *plain) Cancel(t *gate.Thread, reason int64) bool {
	if k == nil || reason < 1 || k.reason != 0 {
		return false
	}
	k.reason = reason
	for _, f := range k.parts {
		f(t, reason)
	}
	return true
}

func (k *plain) Reason(*gate.Thread) int64 {
	if k == nil {
		return 0
	}
	return k.reason
}

// Wait: nobody else is there who would wake it.
func (k *plain) Wait(t *gate.Thread) int64 { return k.Reason(t) }

// reasons: some that are none, some at the end.
func reasons() []int64 {
	return []int64{1, 2, 3, 5, 7, 0, -1, math.MaxInt64, math.MinInt64, math.MaxInt64 - 1, 1 << 32, -1 << 32}
}

// maker: of random calls.
type maker struct {
	*rand.Rand
	ops   []int // of the calls that nobody makes within another one
	deeds int
}

func (m *maker) calls(most, depth int) (l []call) {
	for range m.Intn(most + 1) {
		l = append(l, m.call(depth))
	}
	return l
}

// call: of one of some six tokens, or of none.
func (m *maker) call(depth int) call {
	of := aid.Some(m.Intn, []int{0, 0, 0, 0, 0, 1, 1, 1, 1, 2, 2, 2, 3, 3, 4, 5, -1})
	switch aid.Some(m.Intn, m.ops) {
	case child:
		return bears(of)
	case set:
		return sets(of, m.deed(depth))
	case cancel:
		if m.Intn(10) == 0 {
			return cancels(of, aid.Some(m.Intn, reasons()))
		}
		return cancels(of, 1+int64(m.Intn(9)))
	case wait:
		return waits(of)
	}
	return asks(of)
}

func (m *maker) deed(depth int) *deed {
	m.deeds++
	d := quiet("d" + strconv.Itoa(m.deeds))
	switch kind := m.Intn(30); {
	case kind == 0:
		return nil
	case kind < 15 && depth < 3:
		own := m.ops
		m.ops = []int{child, child, set, set, cancel, ask}
		d.calls = m.calls(4, depth+1)
		m.ops = own
	}
	d.falls = m.Intn(15) == 0
	return d
}

// TestFreeAlone: random calls of one goroutine by threads that do not live, now and then by one that does, held against plain tokens.
func TestFreeAlone(t *testing.T) {
	threads := aid.FreeThreads()
	met := map[string]int{}
	for seed := range int64(6000) {
		r := rand.New(rand.NewSource(seed))
		m := &maker{Rand: r, ops: []int{child, child, child, set, set, ask}}
		w, as := made(), newWorld(&plain{}, nil)
		if r.Intn(5) == 0 {
			calls := fills(60+r.Intn(5), r.Intn(2))
			w.makes(nil, calls...)
			as.makes(nil, calls...)
		}
		var l []call
		for i := range 30 {
			if i == 12 {
				m.ops = append(m.ops, cancel, wait)
			}
			c := m.call(0)
			if c.op == wait && c.of >= 0 && c.of < len(as.all) && as.all[c.of].reason == 0 {
				c.op = ask
			}
			l = append(l, c)
			want, got := as.makes(nil, c), ""
			if r.Intn(4) == 0 {
				_, got = alone(w, c)
			} else {
				got = w.makes(aid.Some(r.Intn, threads), c)
			}
			if got != want {
				t.Fatalf("P11.1 to P11.6: seed %d: %v: %s, not %s", seed, l, got, want)
			}
			counts(met, c, got)
		}
		calls := tells(len(as.all))
		if got, want := w.makes(nil, calls...), as.makes(nil, calls...); got != want {
			t.Fatalf("P11.1 to P11.6: seed %d: behind %v: %s, not %s", seed, l, got, want)
		}
	}
	for _, what := range []string{"Child: #", "Child: ErrFull", "Child: ErrNil", "OnCancel: ok", "OnCancel: ErrFull", "OnCancel: ErrNil", "OnCancel: at once", "Cancel: yes", "Cancel: no", "Cancel: of some", "Reason: 0", "Reason: told", "Wait: told", "Wait: 0", "fell"} {
		if met[what] < 500 {
			t.Errorf("the calls are no good: %s in %v", what, met)
		}
	}
}

// counts what a call was told.
func counts(met map[string]int, c call, got string) {
	l := strings.Fields(got)
	last := l[len(l)-1]
	name := []string{"Child: ", "OnCancel: ", "Cancel: ", "Reason: ", "Wait: "}[c.op]
	switch {
	case strings.HasPrefix(last, "fell"):
		met["fell"]++
	case c.op == set && len(l) > 1:
		met[name+"at once"]++
	case c.op == cancel && len(l) > 1:
		met[name+"of some"]++
	case last == "0", last == "woke:0":
		met[name+"0"]++
	case c.op == ask, c.op == wait:
		met[name+"told"]++
	case c.op == child && last[0] == '#':
		met[name+"#"]++
	default:
		met[name+last]++
	}
}

// fills: calls that put so many parts into one token: functions, and children.
func fills(n, of int) (l []call) {
	for i := range n {
		if i%3 == 2 {
			l = append(l, bears(of))
		} else {
			l = append(l, sets(of, quiet("f"+strconv.Itoa(i))))
		}
	}
	return l
}

// chain: calls that make so many tokens, each a child of the one made ahead of it, of which the token number from is the first.
func chain(n, from int) (l []call) {
	for i := range n {
		l = append(l, bears(from+i))
	}
	return l
}

// tells: calls that tell all of so many tokens: which of them live, what their lists have room for, what is in them. Then they are cancelled.
func tells(n int) (l []call) {
	for i := range n {
		l = append(l, asks(i), sets(i, quiet("t"+strconv.Itoa(i))), bears(i))
	}
	for i := range n {
		own := 100 + int64(i)
		l = append(l, asks(i), cancels(i, own), cancels(i, own+100), asks(i), waits(i), sets(i, quiet("u"+strconv.Itoa(i))), bears(i))
	}
	return slices.Clip(l)
}
