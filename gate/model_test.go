package gate_test

import (
	"math/rand"
	"slices"
	"sync/atomic"
	"testing"

	"treadle/api"
	"treadle/gate"
)

// The chapter's words once more, without goroutines: what Run tells is held against what this tells.

// order: one thing that a thread does.
type order struct {
	op        int8
	cell      int
	arg, next int64
	takes     bool // arg is more by what the last access answered
	program   int  // of an OpGo
}

// program: what a thread does, what it does behind that in a deferred call, and whether it falls between them.
type program struct {
	orders, deferred []order
	falls            bool
}

// body: the program as the body of a thread.
func (p program) body(all []program, cells []atomic.Int64) body {
	return func(t *gate.Thread) {
		var last int64
		does := func(l []order) {
			for _, o := range l {
				last = o.do(t, last, all, cells)
			}
		}
		defer func() { does(p.deferred) }()
		does(p.orders)
		if p.falls {
			panic("falls")
		}
	}
}

func (o order) do(t *gate.Thread, last int64, all []program, cells []atomic.Int64) int64 {
	arg := o.arg
	if o.takes {
		arg += last
	}
	switch o.op {
	case api.OpMark:
		t.Mark(arg, o.next)
		return last
	case api.OpGo:
		return int64(t.Go(all[o.program].body(all, cells)))
	}
	was, now, ok := t.Step(&cells[o.cell], o.op, arg, o.next)
	if ok {
		return was + 2*now + 1
	}
	return was + 2*now
}

type modelThread struct {
	orders      []order
	last        int64
	falls, fell bool
}

type model struct {
	all     []program
	threads []*modelThread
	values  []int64
	numbers []int // of the cells; -1: not met
	met     int
	r       api.Report
}

// on: the thread goes up to its next access, or to its end.
func (m *model) on(n int) {
	x := m.threads[n]
	for len(x.orders) > 0 && x.orders[0].op == api.OpMark {
		o := x.orders[0]
		m.r.Log = append(m.r.Log, api.Access{Thread: n, Op: o.op, Cell: -1, Arg: x.arg(o), New: o.next})
		x.orders = x.orders[1:]
	}
	x.fell = len(x.orders) == 0 && x.falls
}

func (x *modelThread) arg(o order) int64 {
	if o.op == api.OpLoad || o.op == api.OpGo {
		return 0
	}
	if o.takes {
		return o.arg + x.last
	}
	return o.arg
}

func (m *model) begin(p program) {
	m.threads = append(m.threads, &modelThread{orders: slices.Concat(p.orders, p.deferred), falls: p.falls})
	m.on(len(m.threads) - 1)
}

// stands: the entry of the access at which a thread stands.
func (m *model) stands(n int) api.Access {
	x := m.threads[n]
	o := x.orders[0]
	a := api.Access{Thread: n, Op: o.op, Cell: -1, Arg: x.arg(o)}
	if o.op == api.OpGo {
		return a
	}
	if o.op == api.OpCas {
		a.New = o.next
	}
	a.Cell, a.Was, a.Now = m.numbers[o.cell], m.values[o.cell], m.values[o.cell]
	return a
}

func (m *model) ready() (ready []int, living int) {
	for n, x := range m.threads {
		if len(x.orders) > 0 {
			living++
			if a := m.stands(n); a.Op != api.OpPark || a.Was != a.Arg {
				ready = append(ready, n)
			}
		}
	}
	return ready, living
}

func (m *model) turn(n int) {
	x, a := m.threads[n], m.stands(n)
	o := x.orders[0]
	x.orders = x.orders[1:]
	if a.Op == api.OpGo {
		a.Now = -1
		if len(m.threads) < 64 {
			a.Now = int64(len(m.threads))
		}
		x.last = a.Now
		m.r.Log = append(m.r.Log, a)
		if a.Now >= 0 {
			m.begin(m.all[o.program])
		}
		m.on(n)
		return
	}
	if a.Cell < 0 {
		a.Cell, m.numbers[o.cell] = m.met, m.met
		m.met++
	}
	switch {
	case a.Op == api.OpStore, a.Op == api.OpSwap:
		a.Now = a.Arg
	case a.Op == api.OpAdd:
		a.Now += a.Arg
	case a.Op == api.OpCas && a.Was == a.Arg:
		a.Now, a.Ok = a.New, true
	}
	m.values[o.cell] = a.Now
	x.last = a.Was + 2*a.Now
	if a.Ok {
		x.last++
	}
	m.r.Log = append(m.r.Log, a)
	m.on(n)
}

func (m *model) run(picks []int, most int, bodies []program) api.Report {
	for _, p := range bodies {
		m.begin(p)
	}
	last := -1
	for {
		ready, living := m.ready()
		if living == 0 {
			m.r.End = api.Over
		} else if len(ready) == 0 {
			m.r.End = api.Dead
		} else if m.r.Turns == most {
			m.r.End = api.Cut
		}
		if m.r.End != 0 {
			return m.end()
		}
		goes := ready[0]
		if k := m.r.Turns; k < len(picks) {
			goes = ready[((picks[k]%len(ready))+len(ready))%len(ready)]
		} else if i := slices.IndexFunc(ready, func(n int) bool { return n > last }); i >= 0 {
			goes = ready[i]
		}
		m.r.Went, m.r.Ready, m.r.Turns = append(m.r.Went, goes), append(m.r.Ready, len(ready)), m.r.Turns+1
		last = goes
		m.turn(goes)
	}
}

func (m *model) end() api.Report {
	for n, x := range m.threads {
		if len(x.orders) > 0 {
			m.r.Left = append(m.r.Left, m.stands(n))
		} else if x.fell {
			m.r.Fell = append(m.r.Fell, n)
		}
	}
	return m.r
}

const modelCells = 3

func someOrders(r *rand.Rand, most, programs int) []order {
	var l []order
	for range r.Intn(most + 1) {
		o := order{op: int8(1 + r.Intn(8)), cell: r.Intn(modelCells), arg: int64(r.Intn(3)), next: int64(r.Intn(3)), takes: r.Intn(3) == 0, program: r.Intn(programs)}
		l = append(l, o)
	}
	return l
}

func somePrograms(r *rand.Rand) []program {
	l := make([]program, 1+r.Intn(4))
	for i := range l {
		l[i] = program{orders: someOrders(r, 6, len(l)), falls: r.Intn(4) == 0}
		if r.Intn(2) == 0 {
			l[i].deferred = someOrders(r, 2, len(l))
		}
	}
	return l
}

func somePicks(r *rand.Rand) []int {
	l := make([]int, r.Intn(15))
	for i := range l {
		l[i] = int(r.Uint64() >> r.Intn(64))
	}
	return l
}

// fresh: the bodies of programs, on cells that hold 0.
func fresh(programs []program) []body {
	cells := make([]atomic.Int64, modelCells)
	var l []body
	for _, p := range programs {
		l = append(l, p.body(programs, cells))
	}
	return l
}

func TestRunIsAsTheWordsSay(t *testing.T) {
	ends := map[int8]int{}
	most64 := false
	for seed := range int64(4000) {
		r := rand.New(rand.NewSource(seed))
		programs, picks, most := somePrograms(r), somePicks(r), []int{0, 1, 5, 30, 400}[r.Intn(5)]
		m := &model{all: programs, values: make([]int64, modelCells), numbers: []int{-1, -1, -1}}
		want := m.run(picks, most, programs)
		got := gate.Run(picks, most, fresh(programs)...)
		same(t, "P1.1", got, want)
		ends[got.End]++
		most64 = most64 || len(m.threads) == 64
		saysAll(t, got)
		again(t, programs, picks, got, r.Intn(got.Turns+1))
		if t.Failed() {
			t.Fatalf("seed %d: %+v, picks %v, most %d", seed, programs, picks, most)
		}
	}
	if ends[api.Over] < 100 || ends[api.Dead] < 100 || ends[api.Cut] < 100 || !most64 {
		t.Errorf("the programs are no good: %v, %v", ends, most64)
	}
}

// saysAll: W1, as far as a report says it by itself.
func saysAll(t *testing.T, r api.Report) {
	t.Helper()
	var held []int64
	var went []int
	for _, a := range r.Log {
		if a.Op != api.OpMark {
			went = append(went, a.Thread)
		}
		if a.Cell < 0 {
			continue
		}
		if a.Cell > len(held) {
			t.Errorf("P1.1: the number of a cell that is met: %s", text(a))
			return
		}
		if a.Cell == len(held) {
			held = append(held, 0)
		}
		if held[a.Cell] != a.Was {
			t.Errorf("W1: the cell held %d: %s", held[a.Cell], text(a))
		}
		held[a.Cell] = a.Now
	}
	if !slices.Equal(went, r.Went) || r.Turns != len(went) || len(r.Ready) != r.Turns {
		t.Errorf("W1: %d turns, %v went: %s", r.Turns, went, told(r))
	}
}

// again: W7: the run of a report's Went is the report; of the first n picks, with n turns, its beginning.
func again(t *testing.T, programs []program, picks []int, r api.Report, n int) {
	t.Helper()
	replayed, e, at := gate.Again(r.Went, fresh(programs)...)
	if e != api.OK || at != 0 {
		t.Errorf("W7: %d at %d", e, at)
	}
	same(t, "W7: Again", replayed, r)
	same(t, "W7: once more", gate.Run(picks, max(r.Turns, 400), fresh(programs)...), gate.Run(picks, max(r.Turns, 400), fresh(programs)...))
	start := gate.Run(picks[:min(n, len(picks))], n, fresh(programs)...)
	if start.Turns != n || !slices.Equal(start.Went, r.Went[:n]) || !slices.Equal(start.Ready, r.Ready[:n]) || len(start.Log) > len(r.Log) || !slices.Equal(start.Log, r.Log[:len(start.Log)]) {
		t.Errorf("W7: the first %d turns: %s\nof %s", n, told(start), told(r))
	}
}
