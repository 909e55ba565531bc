package aid_test

import (
	"io"
	"math"
	"math/rand"
	"slices"
	"strconv"
	"strings"
	"sync/atomic"
	"testing"

	"treadle/aid"
	"treadle/api"
	"treadle/fault"
	"treadle/gate"
)

// two threads: one adds 1 and sees whether it can lay 5 where 1 was; one loads, lays 3 and parks on 3 in another cell.
func run(picks ...int) api.Report {
	var x, y atomic.Int64
	return gate.Run(picks, 9, func(t *gate.Thread) {
		t.Step(&x, api.OpAdd, 1, 0)
		t.Step(&x, api.OpCas, 1, 5)
	}, func(t *gate.Thread) {
		t.Step(&x, api.OpLoad, 0, 0)
		t.Step(&y, api.OpSwap, 3, 0)
		t.Step(&y, api.OpPark, 3, 0)
	})
}

// faults: what is found in a report, held against the steps of such threads.
func faults(r api.Report) []string {
	of := aid.Of(r)
	first := of.Thread(0, func(s *aid.Steps) {
		s.Add(0, 1)
		s.Cas(0, 1, 5)
	})
	second := of.Thread(1, func(s *aid.Steps) {
		s.Load(0)
		s.Swap(1, 3)
		s.Park(1, 3)
	})
	l := of.Faults()
	if ends := of.Ends(map[int]int64{}); ends[0] != 5 || ends[1] != 3 {
		l = append(l, "ends")
	}
	if !first || second {
		l = append(l, "whole")
	}
	return append(l, of.Faults()...)
}

func TestARecordThatHolds(t *testing.T) {
	for _, picks := range [][]int{nil, {1}, {1, 1}, {0, 0}, {0, 1, 1, 0}} {
		if l := faults(run(picks...)); len(l) != 0 {
			t.Errorf("%v: %v", picks, l)
		}
	}
}

// TestARecordThatDoesNot: each change of a record is seen.
func TestARecordThatDoesNot(t *testing.T) {
	for i := range run().Log {
		for what, f := range map[string]func(a *api.Access){
			"thread": func(a *api.Access) { a.Thread = 1 - a.Thread },
			"op":     func(a *api.Access) { a.Op = 7 - a.Op },
			"cell":   func(a *api.Access) { a.Cell = 1 - a.Cell },
			"arg":    func(a *api.Access) { a.Arg++ },
			"new":    func(a *api.Access) { a.New++ },
			"was":    func(a *api.Access) { a.Was++ },
			"now":    func(a *api.Access) { a.Now++ },
			"ok":     func(a *api.Access) { a.Ok = !a.Ok },
		} {
			r := run()
			if f(&r.Log[i]); len(faults(r)) == 0 {
				t.Errorf("%s: no fault in %+v", what, r.Log)
			}
		}
	}
	for what, f := range map[string]func(r *api.Report){
		"one is missing":       func(r *api.Report) { r.Log = slices.Delete(r.Log, 1, 2) },
		"the last is missing":  func(r *api.Report) { r.Log = r.Log[:3] },
		"one too many":         func(r *api.Report) { r.Log, r.Went = append(r.Log, r.Log[0]), append(r.Went, 0) },
		"another one went":     func(r *api.Report) { r.Went[0] = 1 },
		"a mark among them":    func(r *api.Report) { r.Log = slices.Insert(r.Log, 1, api.Access{Op: api.OpMark, Cell: -1}) },
		"a mark of nobody's":   func(r *api.Report) { r.Log = slices.Insert(r.Log, 0, api.Access{Thread: 9, Op: api.OpMark, Cell: -1}) },
		"nobody is left":       func(r *api.Report) { r.Left = nil },
		"another is left":      func(r *api.Report) { r.Left[0].Thread = 0 },
		"left at another op":   func(r *api.Report) { r.Left[0].Op = api.OpLoad },
		"left at another arg":  func(r *api.Report) { r.Left[0].Arg = 4 },
		"left, and can go on":  func(r *api.Report) { r.Left[0].Was, r.Left[0].Now = 4, 4 },
		"left, and it changes": func(r *api.Report) { r.Left[0].Now = 4 },
	} {
		r := run()
		if f(&r); len(faults(r)) == 0 {
			t.Errorf("%s: no fault in %+v", what, r)
		}
	}
}

// TestSpans: of calls of two accesses each, of which the first thread makes one and a half.
func TestSpans(t *testing.T) {
	var x atomic.Int64
	body := func(t *gate.Thread) {
		for range 4 {
			t.Step(&x, api.OpAdd, 1, 0)
		}
	}
	r := gate.Run([]int{1, 0, 1, 0, 1, 0}, 7, body, body)
	for thread, want := range [][]aid.Span{{{1, 3}, {5, 7}, {}}, {{0, 2}, {4, 6}, {7, 6}}} {
		of, got := aid.Of(r), make([]aid.Span, 3)
		of.Thread(thread, func(s *aid.Steps) {
			for i := range got {
				s.Span(&got[i], func() {
					for range []int{2, 2, 0}[i] {
						s.Add(0, 1)
					}
				})
			}
		})
		if !slices.Equal(got, want) || len(of.Faults()) != 0 {
			t.Errorf("the thread %d: %v, not %v: %v", thread, got, want, of.Faults())
		}
	}
}

func TestEvery(t *testing.T) {
	var x atomic.Int64
	add := func(t *gate.Thread) {
		t.Step(&x, api.OpAdd, 1, 0)
		t.Step(&x, api.OpAdd, 1, 0)
	}
	seen := map[string]bool{}
	n := aid.Every(9, func(picks []int) []int {
		r := gate.Run(picks, len(picks), add, add)
		s := ""
		for _, w := range r.Went {
			s += string(rune('0' + w))
		}
		seen[s] = true
		return r.Ready
	})
	if n != 6 || len(seen) != 6 {
		t.Errorf("%d schedules, %d unlike: %v", n, len(seen), seen)
	}
	if n := aid.Every(0, func([]int) []int { return nil }); n != 1 {
		t.Errorf("of none: %d", n)
	}
}

// TestTogether: each hand comes to each meeting, in their order. (That they come at one time nobody can promise.)
func TestTogether(t *testing.T) {
	const hands, meetings = 4, 1000
	var at [hands][]int
	aid.Together(hands, meetings, func(h, i int) { at[h] = append(at[h], i) })
	for h, l := range at {
		if len(l) != meetings || !slices.IsSorted(l) || l[0] != 0 || l[meetings-1] != meetings-1 {
			t.Errorf("the hand %d: %v", h, l)
		}
	}
	aid.Together(0, 9, func(int, int) { t.Error("nobody") })
	aid.Together(9, 0, func(int, int) { t.Error("never") })
}

func TestTexts(t *testing.T) {
	want := "0 add c0 1: 0; 1 load c0: 1; 0 cas c0 1 5: 1 ok; 1 swap c1 3: 0"
	if s := aid.Texts(run().Log); s != want {
		t.Errorf("%s, not %s", s, want)
	}
	marks := gate.Run(nil, 0, nil, func(t *gate.Thread) {
		t.Mark(7, 2)
		t.Mark(-1, math.MinInt64)
	})
	if s := aid.Texts(marks.Log); s != "1 mark 7 2; 1 mark -1 -9223372036854775808" {
		t.Errorf("marks: %s", s)
	}
	goes := gate.Run(nil, 1, func(t *gate.Thread) {
		t.Go(nil)
		t.Go(nil)
	})
	if s := aid.Texts(goes.Log) + "; " + aid.Texts(goes.Left); s != "0 go: 1; 0 go: 0" {
		t.Errorf("threads that are begun: %s", s)
	}
}

func TestThreads(t *testing.T) {
	for what, th := range aid.NotLiving() {
		if th.Live() || (th == nil) != (what == "nil") {
			t.Errorf("%s", what)
		}
	}
	l := aid.FreeThreads()
	if len(l) != len(aid.NotLiving()) || slices.ContainsFunc(l, (*gate.Thread).Live) || slices.Index(l, nil) != slices.Index(aid.FreeThreads(), nil) {
		t.Errorf("%v", l)
	}
	if _, own := aid.Stopped(); !gate.Is(own) {
		t.Errorf("%v", own)
	}
}

func TestSome(t *testing.T) {
	r := rand.New(rand.NewSource(1))
	seen := map[int64]int{}
	for range 1000 {
		seen[aid.Some(r.Intn, []int64{4, 5, 4})]++
	}
	if len(seen) != 2 || seen[4] < 500 || seen[5] < 200 {
		t.Errorf("%v", seen)
	}
	for what, l := range map[string][]int64{"values": aid.Values(), "positions": aid.Positions()} {
		for _, v := range []int64{0, 1, -1, math.MaxInt64, math.MinInt64} {
			if !slices.Contains(l, v) {
				t.Errorf("%s: %d is missing", what, v)
			}
		}
	}
}

func TestSizes(t *testing.T) {
	l := aid.Sizes()
	for _, n := range []int{math.MaxInt, math.MinInt, -1, 0, 1, api.MaxRing, api.MaxRing + 1, api.MaxNodes, api.MaxNodes + 1} {
		if !slices.Contains(l, n) {
			t.Errorf("%d is missing", n)
		}
	}
}

func TestRooms(t *testing.T) {
	fits := func(n int) bool { return n >= 2 && n <= api.MaxRing && n&(n-1) == 0 }
	for what, row := range map[string]struct {
		makes  func(n int, from int64) (bool, api.Errno)
		faults int
	}{
		"as it is to be": {func(n int, from int64) (bool, api.Errno) {
			if fits(n) {
				return true, api.OK
			}
			return false, api.ErrArg
		}, 0},
		"one is too small": {func(n int, from int64) (bool, api.Errno) {
			if fits(n) || n == 1 {
				return true, api.OK
			}
			return false, api.ErrArg
		}, 4},
		"one is missing": {func(n int, from int64) (bool, api.Errno) {
			if fits(n) && n != api.MaxRing {
				return true, api.OK
			}
			return false, api.ErrArg
		}, 4},
		"another error": {func(n int, from int64) (bool, api.Errno) {
			if fits(n) {
				return true, api.OK
			}
			return false, map[bool]api.Errno{true: api.ErrFull, false: api.ErrArg}[n == 3]
		}, 4},
		"made, with an error": {func(n int, from int64) (bool, api.Errno) {
			if fits(n) {
				return true, api.OK
			}
			return n == 3 && from == 0, api.ErrArg
		}, 1},
		"none, and no error": {func(n int, from int64) (bool, api.Errno) {
			if fits(n) {
				return n != 4 || from >= 0, api.OK
			}
			return false, api.ErrArg
		}, 2},
	} {
		if l := aid.Rooms(row.makes); len(l) != row.faults {
			t.Errorf("%s: %v", what, l)
		}
	}
}

// TestStops: a call of three adds, in which a thread is stopped; calls by which it leaves.
func TestStops(t *testing.T) {
	adds := func(x *atomic.Int64) func(t *gate.Thread, n int) {
		return func(t *gate.Thread, n int) {
			for range n {
				t.Step(x, api.OpAdd, 1, 0)
			}
		}
	}
	for turns, want := range []string{"0 add c-1 1: 0", "0 add c0 1: 1", "0 add c0 1: 2"} {
		var x atomic.Int64
		if stands, faults := aid.Stops(turns, adds(&x), 3, 1, 2); stands != want || len(faults) != 0 || x.Load() != int64(turns) {
			t.Errorf("%d turns: %s, %v", turns, stands, faults)
		}
	}
	var x, y, z atomic.Int64
	if stands, faults := aid.Stops(3, adds(&x), 3); stands != "" || len(faults) != 2 {
		t.Errorf("a call that ends: %s, %v", stands, faults)
	}
	marks := func(t *gate.Thread, n int) {
		t.Mark(1, 10)
		adds(&z)(t, n)
	}
	if stands, faults := aid.Stops(1, marks, 2, 1); stands != "0 add c0 1: 1" || len(faults) != 0 {
		t.Errorf("a call that marks: %s, %v", stands, faults)
	}
	swallows := func(t *gate.Thread, n int) { _ = aid.Caught(func() { adds(&y)(t, n) }) }
	if stands, faults := aid.Stops(1, swallows, 3, 1); stands != "0 add c0 1: 1" || len(faults) != 2 {
		t.Errorf("calls that swallow the panic: %s, %v", stands, faults)
	}
}

// TestIdle: what f does by one that lives, or as that is stopped, is seen.
func TestIdle(t *testing.T) {
	var x atomic.Int64
	adds := func(th *gate.Thread) { th.Step(&x, api.OpAdd, 1, 0) }
	kinds := map[string]int{}
	if l := aid.Idle(func(who string, _ *gate.Thread) { kinds[who]++ }); len(l) != 0 || len(kinds) != len(aid.NotLiving())+2 {
		t.Errorf("it does nothing: %v; it is called with %v", l, kinds)
	}
	for what, row := range map[string]struct {
		f      func(who string, th *gate.Thread)
		faults int
	}{
		"none of one that lives":   {func(who string, th *gate.Thread) { _ = who == "nil" && th.Live() }, 0},
		"an access":                {func(_ string, th *gate.Thread) { adds(th) }, 2},
		"an access that is caught": {func(_ string, th *gate.Thread) { _ = aid.Caught(func() { adds(th) }) }, 1},
		"a mark":                   {func(_ string, th *gate.Thread) { th.Mark(1, 10) }, 1},
		"an access as it is stopped": {func(who string, th *gate.Thread) {
			if who == "one that is stopped" {
				adds(th)
			}
		}, 1},
		"an access of one that lives": {func(who string, th *gate.Thread) {
			if who == "one that lives" {
				adds(th)
			}
		}, 1},
	} {
		if l := aid.Idle(row.f); len(l) != row.faults {
			t.Errorf("%s: %v", what, l)
		}
	}
}

// TestMirror: two threads that add, and others that do the same, or something else.
func TestMirror(t *testing.T) {
	adds := func(x *atomic.Int64, d ...int64) aid.Body {
		return func(th *gate.Thread) {
			for _, d := range d {
				th.Step(x, api.OpAdd, d, 0)
			}
		}
	}
	falls := func(f aid.Body) aid.Body {
		return func(th *gate.Thread) {
			f(th)
			panic("x")
		}
	}
	for what, row := range map[string]struct {
		bodies, others func(x *atomic.Int64) []aid.Body
		most           int
		end            int8
		faults         int
	}{
		"the same":      {func(x *atomic.Int64) []aid.Body { return []aid.Body{adds(x, 1, 2), adds(x, 3)} }, nil, 9, api.Over, 0},
		"the same, cut": {func(x *atomic.Int64) []aid.Body { return []aid.Body{adds(x, 1, 2), adds(x, 3)} }, nil, 2, api.Cut, 0},
		"one that sleeps": {func(x *atomic.Int64) []aid.Body {
			return []aid.Body{adds(x, 1), func(th *gate.Thread) { th.Step(x, api.OpPark, 1, 0); th.Step(x, api.OpPark, 1, 0) }}
		}, nil, 9, api.Dead, 0},
		"another order": {func(x *atomic.Int64) []aid.Body { return []aid.Body{adds(x, 1, 2), adds(x, 3)} }, func(x *atomic.Int64) []aid.Body { return []aid.Body{adds(x, 2, 1), adds(x, 3)} }, 9, api.Over, 1},
		"one more":      {func(x *atomic.Int64) []aid.Body { return []aid.Body{adds(x, 1), adds(x, 3)} }, func(x *atomic.Int64) []aid.Body { return []aid.Body{adds(x, 1, 1), adds(x, 3)} }, 9, api.Over, 1},
		"one less":      {func(x *atomic.Int64) []aid.Body { return []aid.Body{adds(x, 1, 1), adds(x, 3)} }, func(x *atomic.Int64) []aid.Body { return []aid.Body{adds(x, 1), adds(x, 3)} }, 9, api.Over, 1},
		"both fall":     {func(x *atomic.Int64) []aid.Body { return []aid.Body{adds(x, 1), falls(adds(x, 3))} }, nil, 9, api.Over, 1},
		"one falls":     {func(x *atomic.Int64) []aid.Body { return []aid.Body{adds(x, 1), falls(adds(x, 3))} }, func(x *atomic.Int64) []aid.Body { return []aid.Body{adds(x, 1), adds(x, 3)} }, 9, api.Over, 2},
	} {
		if row.others == nil {
			row.others = row.bodies
		}
		var x, y atomic.Int64
		r, l := aid.Mirror([]int{1, 0, -1}, row.most, row.bodies(&x), row.others(&y))
		if r.End != row.end || len(l) != row.faults {
			t.Errorf("%s: end %d: %v", what, r.End, l)
		}
	}
}

// TestMirrorTold: two threads of which the second one is told what it adds to, and others that are told so, or something else.
func TestMirrorTold(t *testing.T) {
	for what, row := range map[string]struct {
		d, most, faults int
		more            []string
	}{"the same": {1, 9, 0, nil}, "the same, cut": {1, 1, 0, nil}, "something else is added": {2, 9, 2, nil}, "something else is told": {1, 9, 1, []string{"x"}}} {
		var x, y atomic.Int64
		story, other := aid.Story{{Thread: 3, Text: "ahead"}}, aid.Story{}
		bodies := func(x *atomic.Int64, d int64, s *aid.Story, more ...string) []aid.Body {
			return []aid.Body{func(th *gate.Thread) { th.Step(x, api.OpAdd, d, 0) }, func(th *gate.Thread) {
				was, _, _ := th.Step(x, api.OpLoad, 0, 0)
				s.Tells(th, strconv.FormatInt(was, 10))
				for _, m := range more {
					s.Tells(th, m)
				}
			}}
		}
		r, l := aid.MirrorTold(nil, row.most, bodies(&x, 1, &story), bodies(&y, int64(row.d), &other, row.more...), &story, &other)
		if len(l) != row.faults || r.Turns != min(row.most, 2) {
			t.Errorf("%s: %+v: %v", what, r, l)
		}
	}
}

// TestRows: all of them, each once, and each its own.
func TestRows(t *testing.T) {
	rows := aid.Rows([]string{"a", "b"}, 2)
	var l []string
	for _, r := range rows {
		l = append(l, strings.Join(r, ""))
	}
	if got := strings.Join(l, " "); got != " a b aa ab ba bb" {
		t.Errorf("%s", got)
	}
	for i := range rows {
		rows[i] = append(rows[i], "x")
	}
	if got := strings.Join(slices.Concat(rows...), ""); got != "xaxbxaaxabxbaxbbx" {
		t.Errorf("%s", got)
	}
	if n := len(aid.Rows([]int{1, 2, 3}, 4)); n != 1+3+9+27+81 {
		t.Errorf("%d", n)
	}
	if n := len(aid.Rows([]int{1, 2, 3}, 0)) + len(aid.Rows([]int(nil), 3)); n != 2 {
		t.Errorf("%d", n)
	}
}

// TestBy: it is called with each kind of thread that may go on; what becomes of the one that lives is seen.
func TestBy(t *testing.T) {
	var x atomic.Int64
	kinds, live := map[string]int{}, 0
	if l := aid.By(func(who string, th *gate.Thread) {
		kinds[who]++
		if th.Live() {
			live++
			th.Step(&x, api.OpAdd, 1, 0)
		}
	}); len(l) != 0 || len(kinds) != len(aid.NotLiving())+1 || live != 1 || x.Load() != 1 {
		t.Errorf("it adds: %v; it is called with %v; %d live", l, kinds, live)
	}
	for what, f := range map[string]func(th *gate.Thread){
		"it falls":  func(*gate.Thread) { panic("x") },
		"it sleeps": func(th *gate.Thread) { th.Step(&x, api.OpPark, 1, 0) },
	} {
		l := aid.By(func(_ string, th *gate.Thread) {
			if th.Live() {
				f(th)
			}
		})
		if len(l) != 1 {
			t.Errorf("%s: %v", what, l)
		}
	}
}

// TestAgain: runs of bodies that do the same each time, and of such as do not.
func TestAgain(t *testing.T) {
	adds := func(x *atomic.Int64, d int64) aid.Body {
		return func(th *gate.Thread) {
			for range 2 {
				th.Step(x, api.OpAdd, d, 0)
			}
		}
	}
	times := int64(0)
	for what, row := range map[string]struct {
		second func(x *atomic.Int64) aid.Body
		faults int
	}{
		"the same":               {func(x *atomic.Int64) aid.Body { return adds(x, 1) }, 0},
		"something else":         {func(x *atomic.Int64) aid.Body { return adds(x, 2) }, 2},
		"it ends sooner":         {func(*atomic.Int64) aid.Body { return nil }, 2},
		"something else in time": {func(x *atomic.Int64) aid.Body { times++; return adds(x, times/2) }, 1},
	} {
		var x atomic.Int64
		picks := []int{1, 0, 1}
		r := gate.Run(picks, 9, adds(&x, 3), adds(&x, 1))
		l := aid.Again(r, picks, func() []aid.Body {
			var y atomic.Int64
			return []aid.Body{adds(&y, 3), row.second(&y)}
		})
		if len(l) != row.faults {
			t.Errorf("%s: %v", what, l)
		}
	}
}

// TestStory: words, of threads that live and of others.
func TestStory(t *testing.T) {
	var s aid.Story
	s.Tells(nil, "a")
	gate.Run(nil, 0, nil, func(th *gate.Thread) { s.Tells(th, "b") })
	if s.String() != "a b" || s[1:].String() != "b" || s[0] != (aid.Word{Thread: -1, Text: "a"}) || s[1] != (aid.Word{Thread: 1, Text: "b"}) {
		t.Errorf("%v", s)
	}
	if got := aid.Story(nil).String() + aid.Yes(true) + aid.Yes(false); got != "yesno" || aid.Digit(true) != 1 || aid.Digit(false) != 0 {
		t.Errorf("%s, %d, %d", got, aid.Digit(true), aid.Digit(false))
	}
}

// TestAnswers: their texts.
func TestAnswers(t *testing.T) {
	for want, a := range map[string]aid.Answer{
		"5": aid.Told(5, nil), "-9223372036854775808": aid.Told(-1<<63, nil), "0": aid.Told(0, nil), "EOF": aid.Told(0, io.EOF), "5_beside_EOF": aid.Told(5, io.EOF), "failed_3": aid.Told(0, &fault.Failed{Code: 3}),
		"1:_late_2": aid.Told(0, fault.Wrap(1, &fault.Late{Due: 2})), "cancelled:4": aid.Told(0, &fault.Cancelled{Reason: 4}), "errno:2": aid.Told(0, api.ErrNil), "errno:0": aid.Told(0, api.OK),
		"panicked:x": aid.Told(0, fault.Of("x")), "panicked:7": aid.Told(0, fault.Of(7)), "panicked:8": aid.Told(0, fault.Of(int64(8))), "panicked:EOF": aid.Told(0, fault.Of(io.EOF)), "panicked:something": aid.Told(0, fault.Of(1.5)),
	} {
		if a.String() != want {
			t.Errorf("%s, not %s", a, want)
		}
	}
	if a := aid.Told(5, io.EOF); a.V != 5 || a.E != io.EOF {
		t.Errorf("%v", a)
	}
}
