package inbox_test

import (
	"math/rand"
	"runtime"
	"slices"
	"strconv"
	"strings"
	"sync/atomic"
	"testing"

	"treadle/aid"
	"treadle/api"
	"treadle/inbox"
)

// (What plain memory is handed on the race detector sees besides.)

const hands, meetings = 8, 50000

// spot: of a value that was taken: by which Take, and where in its answer.
type spot struct{ take, at int }

// spots: of all values that were taken; and how many Takes there were, the last one being what is left; nil, if a value was taken twice.
func spots(calls [][]call, got [][]answer, left string) (where map[int64]spot, takes int) {
	where = map[int64]spot{}
	values := 0
	tells := func(row string) {
		for at, v := range aid.OfLine(row) {
			where[v] = spot{takes, at}
			values++
		}
		takes++
	}
	for h, l := range calls {
		for i, c := range l {
			if c.op == take {
				tells(got[h][i].row)
			}
		}
	}
	if tells(left); len(where) < values {
		return nil, 0
	}
	return where, takes
}

// ordered: whether there is an order of all calls but those that are refused, or ask, that keeps each hand's own, in which they are answered so, and this is left. No two values are alike. (The numbers are another matter.)
func ordered(calls [][]call, got [][]answer, left string) bool {
	where, takes := spots(calls, got, left)
	behind := make([][]int, takes) // of each Take, in the order of spots: some that are behind it
	next, puts := 0, 0
	for h, l := range calls {
		last := spot{-1, 0} // of the hand's last call: of a Take where another value would be
		for i, c := range l {
			here := spot{next, 1 << 40}
			switch a := got[h][i]; {
			case c.op == take:
				next++
			case c.op == put && a.e == api.OK:
				var is bool
				if here, is = where[c.v]; !is {
					return false // it is lost
				}
				puts++
			default:
				continue
			}
			switch {
			case here.take == last.take && here.at < last.at:
				return false
			case here.take != last.take && last.take >= 0:
				behind[last.take] = append(behind[last.take], here.take)
			}
			last = here
		}
	}
	for i := range takes - 1 {
		behind[i] = append(behind[i], takes-1)
	}
	return puts == len(where) && inOrder(behind)
}

// inOrder: whether there is an order of them all in which each is ahead of those that are behind it.
func inOrder(behind [][]int) bool {
	ahead := make([]int, len(behind)) // how many are ahead of each
	for _, l := range behind {
		for _, i := range l {
			ahead[i]++
		}
	}
	var free []int
	for i, n := range ahead {
		if n == 0 {
			free = append(free, i)
		}
	}
	for k := 0; k < len(free); k++ {
		for _, i := range behind[free[k]] {
			if ahead[i]--; ahead[i] == 0 {
				free = append(free, i)
			}
		}
	}
	return len(free) == len(behind)
}

// numbered: whether the numbers that hands were answered are fit: each is an item's, and nobody else's; as many are put as there are items; each hand's rise, and what it is told when it asks is not less than they, nor ahead of a number that is lower; who is refused once is refused for good.
func numbered(most int, calls [][]call, got [][]answer) bool {
	seen := make([]int, most+1)
	asked, done := 0, 0
	for h, l := range calls {
		least := 0 // so many numbers are used up, as the hand knows; of one who was refused all
		for i, c := range l {
			a := got[h][i]
			switch {
			case a.n < 0 || a.n > most || c.op != put && a.e != api.OK || c.op != take && a.row != "":
				return false
			case c.op == take:
			case c.op == begun && a.n < least:
				return false
			case c.op == begun:
				least = a.n
			case a == full:
				asked++
				least = most
			case a.e != api.OK || a.n <= least || seen[a.n] > 0:
				return false
			default:
				asked++
				done++
				seen[a.n]++
				least = a.n
			}
		}
	}
	return done == min(asked, most)
}

// wrong: what of the hands' calls is not as it is to be.
func wrong(most int, calls [][]call, got [][]answer, left string) string {
	switch {
	case !numbered(most, calls, got):
		return "the numbers"
	case !ordered(calls, got, left):
		return "there is no order"
	}
	return ""
}

// crowd: hands that put values, unlike all others', that take, and that ask.
type crowd struct {
	b       *inbox.Inbox[int64]
	most    int
	plain   []int          // of each value: 1, laid ahead of its Put
	through []atomic.Int64 // of each hand: how many Puts are
	begun   atomic.Int64   // how many Puts may be
	putting atomic.Int64   // how many hands are not through
	amiss   atomic.Int64
	calls   [][]call
	got     [][]answer
}

// passes: hands that put so many each, that take, and that ask, as long as somebody puts.
func passes(most, putters, each, takers, askers int) *crowd {
	many := putters + takers + askers
	x := &crowd{b: newInbox(most), most: most, plain: make([]int, putters*each), through: make([]atomic.Int64, putters), calls: make([][]call, many), got: make([][]answer, many)}
	x.putting.Store(int64(putters))
	aid.Beside(many, func(h int) {
		switch {
		case h < putters:
			for i := range each {
				x.put(h, int64(h*each+i))
			}
			x.putting.Add(-1)
		case h < putters+takers:
			got := make([]int64, putters) // of each hand
			for over := false; !over; runtime.Gosched() {
				over = x.putting.Load() == 0
				x.take(h, takers == 1, each, got)
			}
		default:
			for over := false; !over; runtime.Gosched() {
				over = x.putting.Load() == 0
				x.ask(h)
			}
		}
	})
	return x
}

func (x *crowd) notes(h int, c call, a answer) {
	x.calls[h], x.got[h] = append(x.calls[h], c), append(x.got[h], a)
}

func (x *crowd) put(h int, v int64) {
	x.plain[v] = 1
	x.begun.Add(1)
	a := do(x.b, nil, puts(v))
	if x.notes(h, puts(v), a); a.e == api.OK {
		x.through[h].Add(1)
	}
}

// take: where the hand alone takes, all that was put ahead is to be taken; got: how many of each hand's are.
func (x *crowd) take(h int, alone bool, each int, got []int64) {
	var put []int64
	for i := range x.through {
		put = append(put, x.through[i].Load())
	}
	row := x.b.Take(nil)
	for _, v := range row {
		if v < 0 || v >= int64(len(x.plain)) || x.plain[v] != 1 {
			x.amiss.Add(1)
			continue
		}
		got[int(v)/each]++
	}
	for i, n := range put {
		if alone && got[i] < n {
			x.amiss.Add(1)
		}
	}
	x.notes(h, takes, answer{row: aid.Line(row)})
}

func (x *crowd) ask(h int) {
	least := 0
	for i := range x.through {
		least += int(x.through[i].Load())
	}
	n := x.b.Begun(nil)
	if n < least || n > min(x.most, int(x.begun.Load())) {
		x.amiss.Add(1)
	}
	x.notes(h, asks, at(n))
}

// wrong: what went wrong, if anything did; nothing is left behind that.
func (x *crowd) wrong() string {
	left := aid.Line(x.b.Take(nil))
	if n := x.amiss.Load(); n != 0 {
		return strconv.FormatInt(n, 10) + " times amiss"
	}
	as := plain{most: x.most, used: min(x.most, len(x.plain))}
	if l := []call{asks, takes}; !asPlain(as, l, makes(x.b, nil, l...)) {
		return "something is left"
	}
	return wrong(x.most, x.calls, x.got, left)
}

// TestNothingIsLost: each value that was put is in one answer, or there in the end, in an order that keeps each hand's own.
func TestNothingIsLost(t *testing.T) {
	defer inTime()()
	for round := range 12 {
		for _, most := range []int{1, 2, hands, 100, 1000, api.MaxTasks} {
			for _, putters := range []int{1, 2, hands} {
				each := max(most*(1+round%3)/2/putters, 4)
				for what, with := range map[string][2]int{"nobody takes": {0, 0}, "one takes": {1, 0}, "some take": {3, 0}, "one asks": {0, 1}, "some take, some ask": {2, 2}} {
					if s := passes(most, putters, each, with[0], with[1]).wrong(); s != "" {
						t.Fatalf("what follows: of %d items, %d hands, %s: %s", most, putters, what, s)
					}
				}
			}
		}
	}
}

// TestMuchIsTaken: the same, where as many take as put, again and again, so that who puts is forestalled, and what he puts is taken at once.
func TestMuchIsTaken(t *testing.T) {
	defer inTime()()
	for round := range 300 {
		putters := 1 + round%4
		if s := passes(api.MaxTasks, putters, api.MaxTasks/putters, hands-putters, 0).wrong(); s != "" {
			t.Fatalf("what follows: %d hands, and all others take: %s", putters, s)
		}
	}
}

// TestStoppedByTheMachine: the same, where several crowds go at one time, so that there are far more hands than the machine lets go, and it stops them in the midst of their calls for a while.
func TestStoppedByTheMachine(t *testing.T) {
	defer inTime()()
	defer runtime.GOMAXPROCS(runtime.GOMAXPROCS(8 * hands))
	aid.Beside(hands, func(crowd int) {
		for round := range 100 {
			if t.Failed() {
				return
			}
			most := []int{hands, 500, api.MaxTasks, api.MaxTasks}[round%4]
			putters := []int{3, 5, hands}[crowd%3]
			if s := passes(most, putters, most/putters+1, 1+round%3, crowd%2).wrong(); s != "" {
				t.Errorf("what follows: of %d items, %d hands, which are stopped: %s", most, putters, s)
			}
		}
	})
}

// meet: hands meet at inboxes of so many items, and make their calls. There is an order of them that answers so; fits says what else is to be, by the answers, and what is left.
func meet(t *testing.T, most int, first []call, calls func(hand, i int) []call, fits func(got [][]answer, left string) bool) {
	t.Helper()
	defer inTime()()
	boxes := make([]*inbox.Inbox[int64], meetings)
	got := make([][][]answer, meetings)
	for i := range boxes {
		boxes[i], got[i] = newInbox(most), make([][]answer, hands+1)
		got[i][hands] = makes(boxes[i], nil, first...)
	}
	aid.Together(hands, meetings, func(h, i int) { got[i][h] = makes(boxes[i], nil, calls(h, i)...) })
	for i, b := range boxes {
		made := make([][]call, hands)
		for h := range made {
			made[h] = calls(h, i)
		}
		made = append(made, first)
		left := aid.Line(b.Take(nil))
		if s := wrong(most, made, got[i], left); s != "" || !fits(got[i], left) {
			t.Fatalf("what follows: at the meeting %d %v are answered %v; %s are left: %s", i, made, got[i], left, s)
		}
	}
}

// count: how many of the answers are such.
func count(got [][]answer, is func(a answer) bool) (n int) {
	for _, a := range slices.Concat(got...) {
		n += aid.Digit(is(a))
	}
	return n
}

func isFull(a answer) bool { return a == full }
func hasRow(a answer) bool { return a.row != "" }

// has: how many values a row has.
func has(row string) int { return strings.Count(row, " ") }

// TestAllArePut: where there is an item for each: nobody is refused.
func TestAllArePut(t *testing.T) {
	meet(t, hands, nil, func(h, _ int) []call { return []call{puts(int64(h))} }, func(got [][]answer, left string) bool { return count(got, isFull) == 0 && has(left) == hands })
}

// TestSomeArePut: where there are items for some.
func TestSomeArePut(t *testing.T) {
	for _, most := range []int{1, 2, 3, hands - 1} {
		meet(t, most, nil, func(h, _ int) []call { return []call{puts(int64(h)), asks} }, func(got [][]answer, left string) bool {
			return count(got, isFull) == hands-most && has(left) == most
		})
	}
}

// TestOneTakes: of those who take together one has all.
func TestOneTakes(t *testing.T) {
	meet(t, 3, fills(3), func(h, _ int) []call { return []call{takes} }, func(got [][]answer, left string) bool { return count(got, hasRow) == 1 && left == "" })
}

// TestPutsMeetATake: one takes while the others put.
func TestPutsMeetATake(t *testing.T) {
	met := 0
	meet(t, 2*hands, fills(1), func(h, i int) []call {
		if h == i%hands {
			return []call{takes, puts(99)}
		}
		return []call{puts(int64(h)), puts(int64(h + hands))}
	}, func(got [][]answer, left string) bool {
		met += aid.Digit(has(left) < 2*hands-1)
		return count(got, isFull) == 0 && count(got, hasRow) == 1
	})
	if met == 0 {
		t.Error("the hands are no good")
	}
}

// TestAllMeet: each puts, takes what is there, and puts again; there are not items for all.
func TestAllMeet(t *testing.T) {
	meet(t, 2*hands-3, nil, func(h, i int) []call {
		return [][]call{{puts(int64(h)), takes, puts(int64(h + hands))}, {puts(int64(h)), puts(int64(h + hands)), takes}, {takes, puts(int64(h)), asks, puts(int64(h + hands)), asks}}[(h+i)%3]
	}, func(got [][]answer, left string) bool { return count(got, isFull) == 3 })
}

// TestOneOrder: small programs of several hands: there is an order of all calls in which an inbox answers so; where there are few, by going through the orders, too.
func TestOneOrder(t *testing.T) {
	defer inTime()()
	for seed := range int64(12000) {
		r := rand.New(rand.NewSource(seed))
		most, many := 1+r.Intn(14), 3+r.Intn(6)
		b := newInbox(most)
		calls, got := someOf(r, many), make([][]answer, many)
		aid.Beside(many, func(h int) { got[h] = makes(b, nil, calls[h]...) })
		left := aid.Line(b.Take(nil))
		if s := wrong(most, calls, got, left); s != "" || many == 3 && !explained(calls, got, left) {
			t.Fatalf("what follows: seed %d: of %d items no order of %+v answers %v, and leaves %s: %s", seed, most, calls, got, left, s)
		}
	}
}

// someOf: four calls of each hand; no two values are alike.
func someOf(r *rand.Rand, many int) (calls [][]call) {
	ops := aid.Some(r.Intn, [][]int{{put, take}, {put, put, take}, {put, put, take, begun}})
	for h := range many {
		calls = append(calls, nil)
		for i := range 4 {
			c := call{op: aid.Some(r.Intn, ops)}
			if c.op == put {
				c.v = int64(10*h + i)
			}
			calls[h] = append(calls[h], c)
		}
	}
	return calls
}

// explained: what ordered tells, by going through the orders.
func explained(calls [][]call, got [][]answer, left string) bool {
	made, told := make([][]call, len(calls)), make([][]answer, len(calls))
	for h, l := range calls {
		for i, c := range l {
			if a := got[h][i]; c.op != begun && a != full {
				made[h], told[h] = append(made[h], c), append(told[h], answer{row: a.row})
			}
		}
	}
	return aid.Explained(made, told, "", func(row string, c call) (string, answer) {
		if c.op == take {
			return "", answer{row: row}
		}
		return row + aid.Line([]int64{c.v}), answer{}
	}, func(row string) bool { return row == left })
}

// TestOrders: whether there is one is told rightly.
func TestOrders(t *testing.T) {
	for _, row := range []struct {
		calls [][]call
		got   [][]answer
		left  string
		want  bool
	}{
		{nil, nil, "", true},
		{nil, nil, "7 ", false},
		{[][]call{{puts(7)}}, [][]answer{{at(1)}}, "7 ", true},
		{[][]call{{puts(7)}}, [][]answer{{at(1)}}, "", false},
		{[][]call{{puts(7)}}, [][]answer{{at(1)}}, "7 7 ", false},
		{[][]call{{puts(7)}}, [][]answer{{at(1)}}, "7 8 ", false},
		{[][]call{{puts(7)}}, [][]answer{{full}}, "", true},
		{[][]call{{puts(7)}}, [][]answer{{full}}, "7 ", false},
		{[][]call{{puts(7), puts(8)}}, [][]answer{{at(1), at(2)}}, "7 8 ", true},
		{[][]call{{puts(7), puts(8)}}, [][]answer{{at(1), at(2)}}, "8 7 ", false},
		{[][]call{{puts(7)}, {puts(8)}}, [][]answer{{at(1)}, {at(2)}}, "8 7 ", true},
		{[][]call{{puts(7), takes}}, [][]answer{{at(1), all(7)}}, "", true},
		{[][]call{{puts(7), takes}}, [][]answer{{at(1), all()}}, "7 ", false},
		{[][]call{{puts(7), takes}}, [][]answer{{at(1), all(7)}}, "7 ", false},
		{[][]call{{takes, puts(7)}}, [][]answer{{all(7), at(1)}}, "", false},
		{[][]call{{takes, puts(7)}}, [][]answer{{all(), at(1)}}, "7 ", true},
		{[][]call{{puts(7), puts(8)}, {takes, takes}}, [][]answer{{at(1), at(2)}, {all(7), all(8)}}, "", true},
		{[][]call{{puts(7), puts(8)}, {takes, takes}}, [][]answer{{at(1), at(2)}, {all(8), all(7)}}, "", false},
		{[][]call{{puts(7), puts(8)}, {takes}, {takes}}, [][]answer{{at(1), at(2)}, {all(8)}, {all(7)}}, "", true},
		{[][]call{{puts(7), puts(8)}, {puts(5), puts(6)}, {takes}, {takes}}, [][]answer{{at(1), at(2)}, {at(3), at(4)}, {all(5, 7)}, {all(8, 6)}}, "", true},
		{[][]call{{puts(7), puts(8)}, {puts(5), puts(6)}, {takes}, {takes}}, [][]answer{{at(1), at(2)}, {at(3), at(4)}, {all(6, 7)}, {all(8, 5)}}, "", false},
		{[][]call{{puts(7), takes}, {puts(8), takes}}, [][]answer{{at(1), all(8)}, {at(2), all(7)}}, "", false},
		{[][]call{{puts(7), takes}, {puts(8), takes}}, [][]answer{{at(1), all()}, {at(2), all(7, 8)}}, "", true},
		{[][]call{{puts(7), takes, puts(6)}, {takes}}, [][]answer{{at(1), all(), at(2)}, {all(7, 6)}}, "", false},
		{[][]call{{puts(7), takes}, {puts(8), takes}}, [][]answer{{at(1), all()}, {at(2), all()}}, "7 8 ", false},
	} {
		if got, same := ordered(row.calls, row.got, row.left), explained(row.calls, row.got, row.left); got != row.want || same != row.want {
			t.Errorf("%v, %v, and %s are left: %v, %v", row.calls, row.got, row.left, got, same)
		}
	}
}

// TestSomeOrders: the same of random answers, some of which were changed.
func TestSomeOrders(t *testing.T) {
	met := map[bool]int{}
	for seed := range int64(4000) {
		r := rand.New(rand.NewSource(seed))
		calls := someOf(r, 3)
		got, as := make([][]answer, 3), plain{most: 12}
		for left := 12; left > 0; left-- {
			h := r.Intn(3)
			for len(got[h]) == 4 {
				h = (h + 1) % 3
			}
			var a answer
			as, a = does(as, calls[h][len(got[h])])
			got[h] = append(got[h], a)
		}
		rows := []*string{&as.row}
		for h, l := range calls {
			for i, c := range l {
				if c.op == take {
					rows = append(rows, &got[h][i].row)
				}
			}
		}
		for range r.Intn(3) {
			x, y := aid.Some(r.Intn, rows), aid.Some(r.Intn, rows)
			if l := strings.Fields(*x); x != y {
				*x, *y = *y, *x
			} else if len(l) > 1 {
				i := r.Intn(len(l) - 1)
				l[i], l[i+1] = l[i+1], l[i]
				*x = strings.Join(l, " ") + " "
			}
		}
		is := ordered(calls, got, as.row)
		if met[is]++; is != explained(calls, got, as.row) {
			t.Fatalf("seed %d: %v, %v, and %s are left: %v", seed, calls, got, as.row, is)
		}
	}
	if met[true] < 1000 || met[false] < 1000 {
		t.Errorf("the answers are no good: %v", met)
	}
}
