package memo_test

import (
	"errors"
	"io"
	"math"
	"runtime"
	"slices"
	"testing"
	"weak"

	"treadle/aid"
	"treadle/api"
	"treadle/cell"
	"treadle/fault"
	"treadle/gate"
	"treadle/memo"
)

// answers: a build that answers this.
func answers(v int64, e error) function {
	return func(*gate.Thread) (int64, error) { return v, e }
}

// told: what a Get of such a build is told, which is to build; and what three others are told of the same key, none of which is to.
func told(t *testing.T, th *gate.Thread, m *memo.Memo, key int64, f function) (l []aid.Answer) {
	t.Helper()
	for i := range 4 {
		build := f
		if i > 0 {
			build = func(*gate.Thread) (int64, error) { t.Errorf("P15.2: %d is built again", key); return 77, nil }
		}
		v, e, built := m.Get(th, key, build)
		if built != (i == 0) {
			t.Errorf("P15.2: %d: the Get number %d is told that it built it: %v", key, i, built)
		}
		l = append(l, aid.Told(v, e))
	}
	return l
}

// TestValues: what a build answers is what all are told.
func TestValues(t *testing.T) {
	by(t, func(who string, th *gate.Thread) {
		m := memo.New(16)
		for i, v := range aid.Values() {
			for _, a := range told(t, th, m, int64(i), answers(v, nil)) {
				if a != aid.Told(v, nil) {
					t.Errorf("P15.2: %d, by %s: %v", v, who, a)
				}
			}
		}
	})
}

// TestErrors: an error that a build answers is what all are told, just that one, with 0.
func TestErrors(t *testing.T) {
	by(t, func(who string, th *gate.Thread) {
		for _, v := range []int64{0, 5, -1, math.MinInt64} {
			m := memo.New(32)
			for i, e := range aid.Errors() {
				for _, a := range told(t, th, m, int64(i), answers(v, e)) {
					if a != aid.Told(0, e) {
						t.Errorf("P15.2: the error number %d beside %d, by %s: %v", i, v, who, a)
					}
				}
			}
		}
		for _, a := range told(t, th, memo.New(1), 4, answers(5, aid.Awkward{io.EOF})) {
			if a.V != 0 || a.E.(aid.Awkward)[0] != io.EOF {
				t.Errorf("P15.2: an error that is not to be asked, by %s: %d", who, a.V)
			}
		}
	})
}

// TestPanics: what a build panics with is carried to all, and comes out of nothing.
func TestPanics(t *testing.T) {
	by(t, func(who string, th *gate.Thread) {
		for what, row := range aid.Falls() {
			var l []aid.Answer
			if out := aid.Caught(func() {
				l = told(t, th, memo.New(2), 9, func(*gate.Thread) (int64, error) { row.Do(); return 5, io.EOF })
			}); out != nil {
				t.Fatalf("P15.2: %s, by %s: %v comes out", what, who, out)
			}
			for _, a := range l {
				p, is := a.E.(*fault.Panicked)
				if a != l[0] || a.V != 0 || !is || row.With != nil && p.Value != row.With || p.Value == nil {
					t.Fatalf("P15.2: %s, by %s: %v", what, who, a)
				}
				within, _ := row.With.(error)
				if fault.Class(a.E) != api.ErrPanic || errors.Is(a.E, within) {
					t.Errorf("what follows: %s, by %s: found is %d", what, who, fault.Class(a.E))
				}
			}
		}
		for _, a := range told(t, th, memo.New(2), 9, func(*gate.Thread) (v int64, e error) {
			defer func() { _ = recover(); v, e = 8, nil }()
			panic("x")
		}) {
			if a != aid.Told(8, nil) {
				t.Errorf("P15.2: what it recovers itself, by %s: %v", who, a)
			}
		}
	})
}

// TestDeeds: what builds do to their own memo and to others, by each thread that does not live, and by one that does.
func TestDeeds(t *testing.T) {
	a, b, never := gives("A", 5), gives("B", 6), gives("never", 1)
	by(t, func(who string, th *gate.Thread) {
		for _, row := range []struct {
			what  string
			calls []call
			want  string
		}{
			{"it asks for another key", []call{gets(1, gives("C", 1, gets(2, a))), gets(2, never), lists(0)}, "C( A( ) get2:built:5 ) get1:built:1 get2:5 keys:[2,1]"},
			{"it asks for another key twice", []call{gets(1, gives("C", 1, gets(2, a), gets(2, never)))}, "C( A( ) get2:built:5 get2:5 ) get1:built:1"},
			{"it asks for one that is there", []call{gets(2, a), gets(1, gives("C", 1, gets(2, never)))}, "A( ) get2:built:5 C( get2:5 ) get1:built:1"},
			{"it asks for one at the same place", []call{gets(1, gives("C", 1, gets(6, a), gets(9, b))), gets(6, never), lists(0)}, "C( A( ) get6:built:5 B( ) get9:built:6 ) get1:built:1 get6:5 keys:[9,1,6]"},
			{"it asks for one that fails", []call{gets(1, gives("C", 1, gets(2, fails("D", io.EOF)))), gets(2, never)}, "C( D( ) get2:built:EOF ) get1:built:1 get2:EOF"},
			{"it asks for one that panics", []call{gets(1, fails("C", io.EOF, gets(2, fallen("D")))), gets(2, never), gets(1, never)}, "C( D( ) get2:built:panicked:D ) get1:built:EOF get2:panicked:D get1:EOF"},
			{"it asks for another key, and panics", []call{gets(1, fallen("C", gets(2, a))), gets(2, never), gets(1, never)}, "C( A( ) get2:built:5 ) get1:built:panicked:C get2:5 get1:panicked:C"},
			{"they ask for one another, all the way", []call{gets(1, gives("C", 1, gets(2, gives("D", 2, gets(3, gives("E", 3, gets(0, a))))))), gets(3, never), lists(0)}, "C( D( E( A( ) get0:built:5 ) get3:built:3 ) get2:built:2 ) get1:built:1 get3:3 keys:[2,0,1,3]"},
			{"it asks for its own key of another memo", []call{gets(1, gives("C", 1, getsOf(1, 1, a))), getsOf(1, 1, never)}, "C( A( ) get1@1:built:5 ) get1:built:1 get1@1:5"},
			{"it asks for its own key", []call{gets(1, gives("C", 1, gets(1, never))), gets(1, never)}, "C( get1:sleeps ) get1:built:1 get1:1"},
			{"it asks for one that waits for it", []call{gets(1, gives("C", 1, gets(2, gives("D", 2, gets(1, never))))), gets(1, never)}, "C( D( get1:sleeps ) get2:built:2 ) get1:built:1 get1:1"},
			{"it asks where there is no room", []call{getsOf(1, 1, gives("C", 1, getsOf(1, 2, never), lists(1))), getsOf(1, 2, never), getsOf(1, 1, never)}, "C( get2@1:errno:12 keys@1:[1] ) get1@1:built:1 get2@1:errno:12 get1@1:1"},
			{"it asks for the last place, and its own is there still", []call{gets(1, a), gets(2, a), gets(3, gives("C", 1, gets(4, b), gets(5, never))), gets(3, never)}, "A( ) get1:built:5 A( ) get2:built:5 C( B( ) get4:built:6 get5:errno:12 ) get3:built:1 get3:1"},
			{"it asks wrongly", []call{gets(1, gives("C", 1, gets(-1, never), gets(math.MaxInt64, never), gets(2, nil), gets(1, nil), getsOf(-1, 2, never), lists(-1), lists(0)))}, "C( get-1:errno:1 get9223372036854775807:errno:1 get2:errno:1 get1:errno:1 get2@-1:errno:2 keys@-1:[] keys:[1] ) get1:built:1"},
			{"it tells what it is told", []call{gets(1, fails("C", fault.Wrap(1, &fault.Late{Due: 4}))), gets(1, never)}, "C( ) get1:built:1:_late_4 get1:1:_late_4"},
		} {
			w := newWorld(made, 4, 1)
			w.awake = true
			if got := w.makes(th, row.calls...); got != row.want || len(w.follows()) != 0 {
				t.Errorf("P15.2, P15.3: %s, by %s:\n got %s\nwant %s: %v", row.what, who, got, row.want, w.follows())
			}
		}
	})
}

// TestItIsHandedTheThread: just the one that the Get was handed, and its accesses and marks are that thread's.
func TestItIsHandedTheThread(t *testing.T) {
	for what, th := range aid.NotLiving() {
		called := 0
		memo.New(1).Get(th, 3, func(u *gate.Thread) (int64, error) {
			if called++; u != th {
				t.Errorf("P15.2: %s: it is handed another", what)
			}
			return 1, nil
		})
		if called != 1 {
			t.Errorf("P15.2: %s: %d are called", what, called)
		}
	}
	m, c := memo.New(2), cell.New(0)
	r := gate.Run(aid.Goes([2]int{1, 4}, [2]int{0, 9}), 99, func(th *gate.Thread) { m.Get(th, 8, answers(1, nil)) }, func(th *gate.Thread) {
		m.Get(th, 8, func(u *gate.Thread) (int64, error) {
			u.Mark(8, 10)
			n := c.Add(u, 3)
			return n + int64(u.Number()), nil
		})
	})
	want := "1 load c0: 0; 1 cas c0 0 9: 0 ok; 1 cas c1 0 1: 0 ok; 1 mark 8 5; 1 mark 8 10; 1 add c2 3: 0; 1 mark 8 6; 0 load c0: 9; 0 cas c1 0 1: 1 no; 0 load c1: 1; 1 store c1 2: 1; 0 park c1 1: 2; 1 swap c3 -1: 0"
	if v, e, built := m.Get(nil, 8, answers(2, nil)); aid.Texts(r.Log) != want || r.End != api.Over || v != 4 || e != nil || built {
		t.Errorf("P15.2: %d %v %v: %s\nnot %s", v, e, built, aid.Texts(r.Log), want)
	}
}

// TestItBeginsThreads: a build may begin threads, which sleep till it ends, or build what it does not wait for.
func TestItBeginsThreads(t *testing.T) {
	m, got := memo.New(4), make([]aid.Answer, 3)
	r := gate.Run([]int{0, 0, 0, 1, 1, 1, 1, 1}, 99, func(th *gate.Thread) {
		v, e, _ := m.Get(th, 1, func(u *gate.Thread) (int64, error) {
			u.Go(func(u *gate.Thread) {
				v, e, _ := m.Get(u, 2, answers(2, nil))
				got[1] = aid.Told(v, e)
				v, e, _ = m.Get(u, 1, answers(3, nil))
				got[2] = aid.Told(v, e)
			})
			m.Keys(u)
			return 1, nil
		})
		got[0] = aid.Told(v, e)
	})
	if r.End != api.Over || !slices.Equal(got, []aid.Answer{aid.Told(1, nil), aid.Told(2, nil), aid.Told(1, nil)}) || marks(r.Log, 1) != " 5 6" || marks(r.Log, 2) != " 5 6" {
		t.Errorf("P15.2: %v: %+v", got, r)
	}
}

// TestAsksForItself: a build that asks for its own key, or for one whose building waits for it, sleeps for good: the run is dead.
func TestAsksForItself(t *testing.T) {
	never := gives("never", 1)
	for what, row := range map[string]struct {
		calls [][]call
		picks []int
		left  string
	}{
		"its own key":               {[][]call{{gets(1, gives("A", 1, gets(1, never)))}}, nil, "0 park c1 1: 1"},
		"one that waits for it":     {[][]call{{gets(1, gives("A", 1, gets(2, gives("B", 2, gets(1, never)))))}}, nil, "0 park c1 1: 1"},
		"of another memo":           {[][]call{{gets(1, gives("A", 1, getsOf(1, 1, gives("B", 2, gets(1, never)))))}}, nil, "0 park c1 1: 1"},
		"one that another builds":   {[][]call{{gets(1, gives("A", 1, gets(2, never)))}, {gets(2, gives("B", 2, gets(1, never)))}}, nil, "0 park c3 1: 1; 1 park c2 1: 1"},
		"a circle of three":         {[][]call{{gets(1, gives("A", 1, gets(2, never)))}, {gets(2, gives("B", 2, gets(3, never)))}, {gets(3, gives("C", 3, gets(1, never)))}}, nil, "0 park c4 1: 1; 1 park c5 1: 1; 2 park c3 1: 1"},
		"its own, and others wait":  {[][]call{{gets(1, gives("A", 1, gets(1, never)))}, {gets(1, never)}, {lists(0), gets(2, gives("B", 1))}}, aid.Goes([2]int{0, 5}), "0 park c1 1: 1; 1 park c1 1: 1"},
		"one that waits, not both":  {[][]call{{gets(1, gives("A", 1, gets(2, never)))}, {gets(2, gives("B", 2, gets(1, gives("C", 1))))}}, aid.Goes([2]int{0, 2}, [2]int{1, 99}), ""},
		"one that is built by then": {[][]call{{gets(1, gives("A", 1, gets(2, gives("B", 1))))}, {gets(2, gives("C", 2, adds())), gets(1, never)}}, aid.Goes([2]int{1, 99}), ""},
	} {
		w := newWorld(made, 4, 4)
		r := gate.Run(row.picks, api.MaxTurns, w.bodies(row.calls)...)
		if aid.Texts(r.Left) != row.left || (r.End == api.Dead) != (row.left != "") || r.End == api.Cut || len(w.follows()) != 0 {
			t.Errorf("what follows: %s: left %s: %s: %v", what, aid.Texts(r.Left), aid.Texts(r.Log), w.follows())
		}
	}
}

// asleep: whether whoever asks for the key sleeps for good, as nobody else is there; he is to build nothing.
func asleep(t *testing.T, m *memo.Memo, key int64) bool {
	t.Helper()
	r := gate.Run(nil, api.MaxTurns, func(th *gate.Thread) {
		m.Get(th, key, func(*gate.Thread) (int64, error) { t.Errorf("P15.2: %d is built again", key); return 77, nil })
	})
	return r.End == api.Dead && len(r.Left) == 1 && r.Left[0].Op == api.OpPark && r.Left[0].Arg == 1
}

// TestStoppedInItsMidst: a build whose thread is stopped, whatever it does about that: the gate's own panic goes on out of the Get, nothing more is done, and whoever asks then sleeps for good.
func TestStoppedInItsMidst(t *testing.T) {
	x := cell.New(0)
	adds := func(t *gate.Thread) { x.Add(t, 1) }
	midsts := aid.Midsts(adds)
	midsts["sleeps"] = func(t *gate.Thread) { x.Park(t, 0) }
	for what, f := range midsts {
		m, called := memo.New(2), 0
		var out any
		r := gate.Run(nil, 3, func(t *gate.Thread) {
			out = aid.Caught(func() {
				m.Get(t, 7, func(t *gate.Thread) (int64, error) {
					called++
					f(t)
					return 5, nil
				})
			})
		})
		if !gate.Is(out) || len(r.Left) != 1 || aid.Texts(r.Log) != "0 load c0: 0; 0 cas c0 0 8: 0 ok; 0 cas c1 0 1: 0 ok; 0 mark 7 5" || called != 1 || x.Load(nil) != 0 {
			t.Errorf("P15.2: %s: %v comes out: %d are called: %+v", what, out, called, r)
		}
		if !asleep(t, m, 7) || !asleep(t, m, 7) || called != 1 || !slices.Equal(m.Keys(nil), []int64{7}) {
			t.Errorf("P15.2: %s: behind it one is told; %d are called; the keys are %v", what, called, m.Keys(nil))
		}
		if v, e, built := m.Get(nil, 9, answers(3, nil)); v != 3 || e != nil || !built {
			t.Errorf("P15.2: %s: another key behind it: %d %v %v", what, v, e, built)
		}
	}
}

// TestGatesOwn: kept from another run, the gate's own panic goes on just so, wherever a build has it from; it is never carried.
func TestGatesOwn(t *testing.T) {
	_, own := aid.Stopped()
	for what, f := range map[string]function{
		"panics with it": func(*gate.Thread) (int64, error) { panic(own) },
		"behind another": func(*gate.Thread) (int64, error) { defer panic(own); panic("x") },
		"behind answers": func(*gate.Thread) (int64, error) { defer panic(own); return 5, io.EOF },
		"asks for one that panics with it": func(t *gate.Thread) (int64, error) {
			memo.New(1).Get(t, 8, func(*gate.Thread) (int64, error) { panic(own) })
			return 5, nil
		},
	} {
		for who, th := range aid.NotLiving() {
			m := memo.New(1)
			if out := aid.Caught(func() { m.Get(th, 7, f) }); out != own || !asleep(t, m, 7) {
				t.Errorf("P15.2: one that %s, by %s: %v comes out", what, who, out)
			}
		}
		m := memo.New(1)
		var out any
		r := gate.Run(nil, 99, func(th *gate.Thread) { out = aid.Caught(func() { m.Get(th, 7, f) }) })
		if out != own || r.End != api.Over || marks(r.Log, 7) != " 5" || !asleep(t, m, 7) || slices.ContainsFunc(r.Log, func(a api.Access) bool { return a.Op == api.OpStore }) {
			t.Errorf("P15.2: one that %s, by a thread: %v comes out: %s", what, out, aid.Texts(r.Log))
		}
	}
	for _, a := range told(t, nil, memo.New(1), 7, answers(0, fault.Of(own))) {
		if fault.Class(a.E) != api.ErrPanic {
			t.Errorf("P15.2: one that answers what has it within: %v", a)
		}
	}
}

// TestExits: a build that ends its goroutine, which is that of the Get, does not come back, as little as one that is stopped.
func TestExits(t *testing.T) {
	m, out := memo.New(2), any("none")
	aid.Beside(1, func(int) {
		defer func() { out = recover() }()
		m.Get(nil, 7, func(*gate.Thread) (int64, error) { runtime.Goexit(); return 5, nil })
		t.Error("P15.2: it comes back")
	})
	if out != nil || !asleep(t, m, 7) || !slices.Equal(m.Keys(nil), []int64{7}) {
		t.Errorf("P15.2: %v comes out; the keys are %v", out, m.Keys(nil))
	}
}

// row: so many memos, of the greatest size: the key of each part, and the memo that has it.
func row(parts int) (at func(i int) (*memo.Memo, int64), all []*memo.Memo) {
	for range (parts + api.MaxKeys - 1) / api.MaxKeys {
		all = append(all, memo.New(api.MaxKeys))
	}
	return func(i int) (*memo.Memo, int64) { return all[i%len(all)], int64(i / len(all)) }, all
}

// TestNested: builds that ask for one another, to the document's bound; the last one answers, fails, or panics: each key has its own.
func TestNested(t *testing.T) {
	const parts = 1 << 16
	for want, end := range map[string]function{"3": answers(3, nil), "EOF": answers(3, io.EOF), "panicked:x": func(*gate.Thread) (int64, error) { panic("x") }} {
		at, _ := row(parts)
		var build func(i int) function
		build = func(i int) function {
			if i == parts-1 {
				return end
			}
			return func(th *gate.Thread) (int64, error) {
				m, key := at(i + 1)
				v, e, built := m.Get(th, key, build(i+1))
				if i == parts-2 && aid.Told(v, e).String() != want || !built {
					t.Errorf("R1: %s: the build %d is told %d %v %v", want, i, v, e, built)
				}
				if i%2 == 0 {
					panic(i)
				}
				return int64(i), nil
			}
		}
		m, key := at(0)
		m.Get(nil, key, build(0))
		for i := range parts {
			m, key := at(i)
			v, e, built := m.Get(nil, key, answers(77, nil))
			is := aid.Told(int64(i), nil)
			if i%2 == 0 {
				is = aid.Told(0, fault.Of(i))
			}
			if a := aid.Told(v, e); i < parts-1 && a.String() != is.String() || i == parts-1 && a.String() != want || built {
				t.Fatalf("P15.2: %s: the key %d: %v, built: %v", want, i, a, built)
			}
		}
	}
}

// TestNestedStopped: where the thread of builds in one another is stopped, all that were claimed stay so, and no others; as deep as turns last, too.
func TestNestedStopped(t *testing.T) {
	for turns := range 3 * 20 {
		nestedStopped(t, 20, turns)
	}
	nestedStopped(t, 1<<14, 3<<14)
}

// nestedStopped: of so many parts, each the first key of its memo, behind so many turns.
func nestedStopped(t *testing.T, parts, turns int) {
	t.Helper()
	all, called := make([]*memo.Memo, parts), make([]int, parts)
	for i := range all {
		all[i] = memo.New(1)
	}
	var build func(i int) function
	build = func(i int) function {
		return func(th *gate.Thread) (int64, error) {
			if called[i]++; i < parts-1 {
				all[i+1].Get(th, 5, build(i+1))
			}
			return 5, nil
		}
	}
	var out any
	gate.Run(nil, turns, func(th *gate.Thread) { out = aid.Caught(func() { all[0].Get(th, 5, build(0)) }) })
	if !gate.Is(out) {
		t.Errorf("P15.2: %d turns: %v comes out", turns, out)
	}
	for i, m := range all {
		if has := len(m.Keys(nil)); called[i] != aid.Digit(3*i+3 <= turns) || has != aid.Digit(3*i+2 <= turns) || called[i] == 1 && i%100 == 0 && !asleep(t, m, 5) {
			t.Fatalf("P15.2: %d turns: of the part %d %d are called, and %d keys are there", turns, i, called[i], has)
		}
	}
}

// value: one that holds memory.
type value [100]int

func isKept[T any](p weak.Pointer[T]) bool {
	for range 9 {
		runtime.GC()
	}
	return p.Value() != nil
}

// TestNothingIsKept: neither a build nor a thread is kept by a memo, whatever becomes of the Get.
func TestNothingIsKept(t *testing.T) {
	holds := func(m *memo.Memo, th *gate.Thread, key int64, v *value, falls bool) {
		m.Get(th, key, func(*gate.Thread) (int64, error) {
			if v[0]++; falls {
				panic("x")
			}
			return 5, nil
		})
	}
	for what, row := range map[string]struct {
		key   int64
		turns int
		falls bool
	}{
		"stopped ahead of all":         {1, 0, false},
		"stopped ahead of its place":   {1, 1, false},
		"stopped ahead of the claim":   {1, 2, false},
		"stopped behind the build":     {1, 3, false},
		"stopped behind the filling":   {1, 4, false},
		"built":                        {1, 9, false},
		"built, and it panics":         {1, 9, true},
		"another one built it":         {3, 9, false},
		"another one built it, and is": {3, 1, false},
		"full":                         {4, 9, false},
		"refused":                      {-1, 9, false},
	} {
		made := func() (*memo.Memo, weak.Pointer[value], weak.Pointer[gate.Thread]) {
			m, v := memo.New(2), new(value)
			var by weak.Pointer[gate.Thread]
			m.Get(nil, 3, answers(1, nil))
			if row.key == 4 {
				m.Get(nil, 5, answers(1, nil))
			}
			gate.Run(nil, row.turns, func(th *gate.Thread) {
				by = weak.Make(th)
				holds(m, th, row.key, v, row.falls)
			})
			return m, weak.Make(v), by
		}
		m, v, by := made()
		if f, th := isKept(v), isKept(by); f || th {
			t.Errorf("what is kept: %s: the build: %v, the thread: %v", what, f, th)
		}
		runtime.KeepAlive(m)
	}
}
