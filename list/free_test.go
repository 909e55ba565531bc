package list_test

import (
	"math/rand"
	"runtime"
	"slices"
	"sync/atomic"
	"testing"
	"time"

	"treadle/aid"
	"treadle/api"
	"treadle/list"
)

// (What plain memory is handed on the race detector sees besides.)

const hands, meetings = 8, 60000

// explained: whether there is an order of all calls but those that are refused for want of places, that keeps each hand's own, in which they are answered so; whole is all that was ever put on, no two of it alike. (The numbers are another matter.)
func explained(calls [][]call, got [][]answer, whole []int64) bool {
	rows := []string{""} // the texts of what is told, by how many are on
	for n := range whole {
		rows = append(rows, aid.Line(whole[:n+1]))
	}
	met := map[int]int{}
	for h, l := range calls {
		now := 0
		for i, c := range l {
			if a := got[h][i]; a != full {
				at := when(c, a, whole, rows)
				if at < now {
					return false
				}
				now = at
				met[at]++
			}
		}
	}
	closes := met[2*len(whole)+1]
	for i := range whole {
		if met[2*i+1] != 1 {
			return false
		}
	}
	return closes == 1 || closes == 0 && met[2*len(whole)+2] == 0
}

// when: the time of a call that was answered so, if the value number i is put on at 2i+1, and the list is closed at the time behind the last one's and the look at it; -1: it is never answered so.
func when(c call, a answer, whole []int64, rows []string) int {
	last := 2 * len(whole)
	switch {
	case c.op == look && a == ended, c.op != look && a == gone:
		return last + 2
	case c.op == shut && a == answer{row: rows[len(whole)]}:
		return last + 1
	case c.op == look && a == answer{row: a.row}:
		return 2 * slices.Index(rows, a.row)
	case c.op == add && a == at(a.k):
		return 2*slices.Index(whole, c.v) + 1
	}
	return -1
}

// numbered: whether the numbers that Adds of a list were answered are fit: each is one of a place, and nobody else's; where somebody is refused for want of places, all are given out.
func numbered(most int, calls [][]call, got [][]answer) bool {
	seen := make([]int, most+1)
	asked, refused := 0, 0
	for h, l := range calls {
		for i, c := range l {
			a := got[h][i]
			if a.k < 0 || a.k > most || (a.k != 0) != (c.op == add && a.e == api.OK) {
				return false
			}
			if seen[a.k]++; a.k != 0 && seen[a.k] > 1 {
				return false
			}
			if c.op == add && a == full {
				refused++
			} else if c.op == add {
				asked++
			}
		}
	}
	return refused == 0 || asked >= most
}

// crowd: hands that add values, unlike all others', that look, and that close.
type crowd struct {
	l      *list.List[int64]
	plain  []int        // of each value: 1, laid ahead of its Add
	on     atomic.Int64 // how many Adds are through
	shut   atomic.Bool  // whether a Close is through
	amiss  atomic.Int64
	late   atomic.Bool // where something goes wrong they might go on for ever
	calls  [][]call
	got    [][]answer
	rows   [][]int64 // what Closes that were done told
	beside [][]int64 // what the lookers saw last
}

// passes: adders, closers, who close when so many Adds are through, and lookers.
func passes(most, adders, each, closers, when, lookers int) *crowd {
	many := adders + closers + lookers
	x := &crowd{l: newList(most), plain: make([]int, adders*each), calls: make([][]call, many), got: make([][]answer, many), rows: make([][]int64, many), beside: make([][]int64, many)}
	defer time.AfterFunc(30*time.Second, func() { x.late.Store(true) }).Stop()
	var adding atomic.Int64
	adding.Store(int64(adders))
	over := func() bool { return adding.Load() == 0 || x.late.Load() }
	aid.Beside(many, func(h int) {
		switch {
		case h < adders:
			for i := range each {
				x.add(h, int64(h*each+i))
			}
			adding.Add(-1)
		case h < adders+closers:
			for x.on.Load() < int64(when) && !over() {
				runtime.Gosched()
			}
			x.close(h)
		default:
			for x.look(h) && !over() {
				runtime.Gosched()
			}
		}
	})
	return x
}

func (x *crowd) notes(h int, c call, a answer) {
	x.calls[h], x.got[h] = append(x.calls[h], c), append(x.got[h], a)
}

func (x *crowd) add(h int, v int64) {
	x.plain[v] = 1
	shut := x.shut.Load()
	a := do(x.l, nil, adds(v))
	if x.notes(h, adds(v), a); a.e == api.OK {
		x.on.Add(1)
	}
	if shut && a != gone {
		x.amiss.Add(1)
	}
}

func (x *crowd) close(h int) {
	row, e := x.l.Close(nil)
	x.shut.Store(true)
	if x.notes(h, closes, answer{e: e}); e == api.OK {
		x.rows[h] = row
	}
	x.reads(row)
}

// look: whether the list is still open.
func (x *crowd) look(h int) bool {
	shut, on := x.shut.Load(), x.on.Load()
	row, closed, e := x.l.Each(nil)
	x.reads(row)
	if e != api.OK || shut && !closed || closed && len(row) > 0 {
		x.amiss.Add(1)
	}
	if closed {
		return false
	}
	if n := len(x.beside[h]); len(row) < n || len(row) < int(on) || !slices.Equal(row[:n], x.beside[h]) {
		x.amiss.Add(1)
	}
	x.beside[h] = row
	return true
}

// reads what was laid ahead of the Adds of these.
func (x *crowd) reads(row []int64) {
	for _, v := range row {
		if v < 0 || v >= int64(len(x.plain)) || x.plain[v] != 1 {
			x.amiss.Add(1)
		}
	}
}

// holds: whether nothing went wrong: one Close was done, if there was any, and told of each value once that was added, each hand's in their order; lookers saw a beginning of that.
func (x *crowd) holds(t *testing.T, most int, what string) {
	t.Helper()
	asked, done := len(slices.Concat(x.got...)), 0
	var whole []int64
	for h, l := range x.calls {
		if len(l) > 0 && l[0] == closes && x.got[h][0].e == api.OK {
			whole = x.rows[h]
			done++
		}
	}
	closed := x.shut.Load()
	if !closed {
		whole, _, _ = x.l.Each(nil)
		done++
	}
	if n := x.amiss.Load(); n != 0 || done != 1 {
		t.Fatalf("what follows: %s: %d times amiss, %d Closes are done", what, n, done)
	}
	var added []int64
	for h, l := range x.calls {
		mine := x.of(h)
		added = append(added, mine...)
		if inWhole := slices.DeleteFunc(slices.Clone(whole), func(v int64) bool { return !slices.Contains(mine, v) }); !slices.Equal(inWhole, mine) {
			t.Fatalf("what follows: %s: of the hand %d, which made %d calls, %v were added, and the row has %v", what, h, len(l), mine, inWhole)
		}
		if n := len(x.beside[h]); n > len(whole) || !slices.Equal(x.beside[h], whole[:n]) {
			t.Fatalf("what follows: %s: an Each tells %v, the row is %v", what, x.beside[h], whole)
		}
	}
	if len(added) != len(whole) || !numbered(most, x.calls, x.got) || len(whole) > most || !closed && len(added) < min(asked, most) {
		t.Fatalf("what follows: %s: %d were added, the row has %d", what, len(added), len(whole))
	}
	as := plain{closed: closed, row: aid.Line(whole)}
	if as.closed {
		as.row = ""
	}
	if l := []call{looks, closes, closes, looks}; !asPlain(as, l, makes(x.l, nil, l...)) {
		t.Fatalf("what follows: %s: behind that it is not %+v", what, as)
	}
}

// of: the values that a hand has added; who is told once that the list is closed, or that it is full, is not told otherwise later.
func (x *crowd) of(h int) (mine []int64) {
	worst := answer{}
	for i, c := range x.calls[h] {
		switch a := x.got[h][i]; {
		case c.op != add:
		case a == gone || a == full && worst != gone:
			worst = a
		case a.e == api.OK && worst == answer{}:
			mine = append(mine, c.v)
		default:
			return []int64{-1}
		}
	}
	return mine
}

// TestNobodyIsLost: each value that was added is told by the Close, or its Add is told of that.
func TestNobodyIsLost(t *testing.T) {
	for round := range 12 {
		for _, most := range []int{0, 1, 2, hands, 100, 1000, api.MaxNodes} {
			for _, adders := range []int{1, 2, hands} {
				each := max(most*(1+round%3)/2/adders, 4)
				for what, x := range map[string]*crowd{
					"nobody closes":        passes(most, adders, each, 0, 0, 0),
					"one closes":           passes(most, adders, each, 1, most/3, 0),
					"one closes at once":   passes(most, adders, each, 1, min(most, 2), 0),
					"some close":           passes(most, adders, each, 3, most/2, 0),
					"one looks":            passes(most, adders, each, 0, 0, 1),
					"one looks, one close": passes(most, adders, each, 1, most/2, 1),
					"some of all":          passes(most, adders, each, 3, most*3/4, 3),
				} {
					x.holds(t, most, what)
				}
			}
		}
	}
}

// TestStoppedByTheMachine: the same, where there are more hands than the machine lets go at one time, so that it stops them in the midst of their calls for a while.
func TestStoppedByTheMachine(t *testing.T) {
	const many = 2 * hands
	defer runtime.GOMAXPROCS(runtime.GOMAXPROCS(2 * many))
	for round := range 150 {
		most := []int{many, 500, api.MaxNodes}[round%3]
		passes(most, many, most/many+1, 2, most*3/4, 2).holds(t, most, "who are stopped")
	}
}

// meet: hands meet at lists of so many places, and make their calls. There is an order of them that answers so; fits says what else is to be, by the answers.
func meet(t *testing.T, most int, calls func(hand, i int) []call, fits func(got [][]answer) bool) {
	t.Helper()
	lists := make([]*list.List[int64], meetings)
	for i := range lists {
		lists[i] = newList(most)
	}
	got := make([][][]answer, meetings)
	for i := range got {
		got[i] = make([][]answer, hands)
	}
	aid.Together(hands, meetings, func(h, i int) { got[i][h] = makes(lists[i], nil, calls(h, i)...) })
	for i, l := range lists {
		made := make([][]call, hands)
		for h := range made {
			made[h] = calls(h, i)
		}
		if whole := whole(l, made, got[i]); !explained(made, got[i], whole) || !numbered(most, made, got[i]) || !fits(got[i]) {
			t.Fatalf("what follows: at the meeting %d %v are answered %v; the row is %v", i, made, got[i], whole)
		}
	}
}

// whole: what was ever put on: what one Close told, or an Each behind all calls.
func whole(l *list.List[int64], calls [][]call, got [][]answer) (row []int64) {
	for h, made := range calls {
		for i, c := range made {
			if a := got[h][i]; c == closes && a.e == api.OK {
				return aid.OfLine(a.row)
			}
		}
	}
	row, _, _ = l.Each(nil)
	return row
}

// count: how many of the answers are such.
func count(got [][]answer, is func(a answer) bool) (n int) {
	for _, a := range slices.Concat(got...) {
		if is(a) {
			n++
		}
	}
	return n
}

func isDone(a answer) bool { return a.e == api.OK }

// TestAllAreAdded: where there is a place for each: nobody is refused.
func TestAllAreAdded(t *testing.T) {
	meet(t, hands, func(h, _ int) []call { return []call{adds(int64(h))} }, func(got [][]answer) bool { return count(got, isDone) == hands })
}

// TestSomeAreAdded: where there are places for some.
func TestSomeAreAdded(t *testing.T) {
	meet(t, 3, func(h, _ int) []call { return []call{adds(int64(h))} }, func(got [][]answer) bool { return count(got, isDone) == 3 })
}

// TestOneCloses: of those who close together one is told the row.
func TestOneCloses(t *testing.T) {
	meet(t, 3, func(h, _ int) []call { return []call{closes} }, func(got [][]answer) bool { return count(got, isDone) == 1 })
}

// TestAddsMeetAClose: one closes while the others add.
func TestAddsMeetAClose(t *testing.T) {
	meet(t, hands, func(h, i int) []call {
		if h == i%hands {
			return []call{closes, adds(9)}
		}
		return []call{adds(int64(h))}
	}, func(got [][]answer) bool { return count(got, func(a answer) bool { return a == full }) == 0 })
}

// TestAddsMeetLooks: some look, again and again, while the others add.
func TestAddsMeetLooks(t *testing.T) {
	meet(t, hands, func(h, _ int) []call {
		if h%2 == 0 {
			return []call{looks, looks, looks}
		}
		return []call{adds(int64(h)), looks, adds(int64(h + hands))}
	}, func(got [][]answer) bool { return count(got, isDone) == 3*hands })
}

// TestLooksMeetAClose: all have added, and look, while one closes.
func TestLooksMeetAClose(t *testing.T) {
	meet(t, hands, func(h, i int) []call {
		if h == i%hands {
			return []call{adds(int64(h)), looks, looks, closes, looks}
		}
		return []call{adds(int64(h)), looks, looks, looks, looks}
	}, func(got [][]answer) bool {
		return count(got, func(a answer) bool { return a.row != "" && !a.closed }) >= 3
	})
}

// TestAllMeet: some add, some look, some close; there are not places for all.
func TestAllMeet(t *testing.T) {
	closed := 0
	meet(t, 4, func(h, i int) []call {
		return [][]call{{adds(int64(h)), looks}, {looks, adds(int64(h)), adds(int64(h + hands))}, {looks, closes, looks}, {adds(int64(h)), closes}}[(h+i)%4]
	}, func(got [][]answer) bool {
		closed += count(got, func(a answer) bool { return a == gone })
		return true
	})
	if closed == 0 {
		t.Errorf("the calls are no good")
	}
}

// TestOneOrder: small programs of several hands: there is an order of all calls in which a list answers so.
func TestOneOrder(t *testing.T) {
	for seed := range int64(6000) {
		r := rand.New(rand.NewSource(seed))
		most := r.Intn(12)
		l := newList(most)
		calls, got := make([][]call, 4), make([][]answer, 4)
		ops := aid.Some(r.Intn, [][]int{{add}, {add, look}, {add, add, add, add, look, shut}})
		for h := range calls {
			for i := range 4 {
				calls[h] = append(calls[h], call{op: aid.Some(r.Intn, ops)})
				if c := &calls[h][i]; c.op == add {
					c.v = int64(10*h + i)
				}
			}
		}
		aid.Beside(len(calls), func(h int) { got[h] = makes(l, nil, calls[h]...) })
		if whole := whole(l, calls, got); !explained(calls, got, whole) || !numbered(most, calls, got) {
			t.Fatalf("what follows: seed %d: of %d places no order of %+v answers %v; the row is %v", seed, most, calls, got, whole)
		}
	}
}
