package memo_test

import (
	"io"
	"math"
	"math/bits"
	"math/rand"
	"slices"
	"strings"
	"testing"

	"treadle/aid"
	"treadle/api"
	"treadle/fault"
	"treadle/gate"
	"treadle/memo"
)

// TestExamples: the chapter's table.
func TestExamples(t *testing.T) {
	for _, row := range []struct {
		key  int64
		size int
		want int
	}{{0, 4, 0}, {1, 4, 2}, {2, 4, 0}, {3, 4, 3}, {1, 1, 0}, {-1, 4, -1}, {1, 3, -1}} {
		if got := memo.Place(row.key, row.size); got != row.want {
			t.Errorf("P15.1: Place(%d, %d): %d, not %d", row.key, row.size, got, row.want)
		}
	}
	seven := &fault.Failed{Code: 7}
	by(t, func(who string, th *gate.Thread) {
		for _, row := range []struct {
			size  int
			calls []call
			want  string
		}{
			{4, []call{gets(1, gives("A", 10)), gets(1, gives("B", 11)), gets(2, fails("C", seven)), gets(2, gives("D", 5)), lists(0)},
				"A( ) get1:built:10 get1:10 C( ) get2:built:failed_7 get2:failed_7 keys:[2,1]"},
			{1, []call{gets(5, gives("A", 1)), gets(6, gives("B", 2)), gets(5, gives("C", 3))}, "A( ) get5:built:1 get6:errno:12 get5:1"},
			{4, []call{gets(-1, gives("A", 1)), gets(math.MaxInt64, gives("B", 1)), gets(1, nil)}, "get-1:errno:1 get9223372036854775807:errno:1 get1:errno:1"},
		} {
			w := newWorld(made, row.size)
			if got := w.makes(th, row.calls...); got != row.want || len(w.follows()) != 0 {
				t.Errorf("P15.2, P15.3: by %s: %v: %s, not %s: %v", who, row.calls, got, row.want, w.follows())
			}
		}
		m := memo.New(4)
		_, e, _ := m.Get(th, 2, func(*gate.Thread) (int64, error) { return 9, seven })
		v, again, built := m.Get(th, 2, func(*gate.Thread) (int64, error) { return 5, nil })
		if e != error(seven) || again != error(seven) || v != 0 || built {
			t.Errorf("P15.2: by %s: %v, then %d %v %v", who, e, v, again, built)
		}
	})
}

// isSize: a power of two from 1 to 4096.
func isSize(n int) bool { return n >= 1 && n <= 4096 && bits.OnesCount(uint(n)) == 1 }

// TestPlace: some that were worked out by hand; then all sizes, each with keys of all kinds, held against the chapter's words.
func TestPlace(t *testing.T) {
	for size, want := range map[int][]int{
		2: {0, 1, 0, 1, 0, 0, 1, 0, 1}, 8: {0, 4, 1, 6, 3, 0, 5, 2, 7}, 16: {0, 9, 3, 13, 7, 1, 11, 5, 15}, 4096: {0, 2531, 966, 3498, 1933, 369, 2900, 1336, 3867},
	} {
		for key, want := range want {
			if got := memo.Place(int64(key), size); got != want {
				t.Errorf("P15.1: Place(%d, %d): %d, not %d", key, size, got, want)
			}
		}
	}
	for key, want := range map[int64][]int{
		1 << 62: {0, 0, 1, 2, 16, 1024}, math.MaxInt64: {0, 1, 3, 7, 56, 3612}, math.MaxInt64 - 1: {0, 0, 1, 2, 16, 1081}, 1 << 32: {0, 0, 1, 3, 31, 2036}, 12345678901234567: {0, 1, 2, 4, 36, 2340},
	} {
		for i, size := range []int{1, 2, 4, 8, 64, 4096} {
			if got := memo.Place(key, size); got != want[i] {
				t.Errorf("P15.1: Place(%d, %d): %d, not %d", key, size, got, want[i])
			}
		}
	}
	r := rand.New(rand.NewSource(1))
	some := aid.Values()
	for range 40 {
		some = append(some, r.Int63(), int64(r.Intn(5000)), -1-r.Int63())
	}
	for _, size := range aid.Sizes() {
		for _, key := range some {
			want := -1
			if isSize(size) && key >= 0 {
				want = first(key, size)
			}
			if got := memo.Place(key, size); got != want {
				t.Fatalf("P15.1: Place(%d, %d): %d, not %d", key, size, got, want)
			}
		}
	}
}

// TestSizes: there are memos of just the sizes that the chapter names.
func TestSizes(t *testing.T) {
	for _, n := range aid.Sizes() {
		if m := memo.New(n); (m != nil) != isSize(n) {
			t.Fatalf("P15.1: New(%d): %v", n, m != nil)
		}
	}
}

// TestFull: a memo of each size takes so many keys, and not one more, again and again; those that are there are told as ever.
func TestFull(t *testing.T) {
	r := rand.New(rand.NewSource(2))
	for size := 1; size <= 4096; size *= 2 {
		m, all := memo.New(size), map[int64]int{}
		for len(all) < size {
			key := aid.Some(r.Intn, []int64{r.Int63n(2 * int64(size)), r.Int63n(math.MaxInt64), math.MaxInt64 - 1 - r.Int63n(3), 0})
			v, e, built := m.Get(nil, key, func(*gate.Thread) (int64, error) { return key / 2, nil })
			if v != key/2 || e != nil || built == (all[key] > 0) || len(m.Keys(nil)) != len(all)+aid.Digit(built) {
				t.Fatalf("P15.2: size %d: %d, of %d: %d %v %v", size, key, len(all), v, e, built)
			}
			all[key]++
		}
		keys := m.Keys(nil)
		for n := range 3 {
			for key := range int64(20) {
				never := func(*gate.Thread) (int64, error) {
					t.Errorf("P15.2: size %d: it is built: %d", size, key)
					return 0, nil
				}
				v, e, built := m.Get(nil, key, never)
				if all[key] == 0 && (v != 0 || e != api.ErrFull || built) || all[key] > 0 && (v != key/2 || e != nil || built) {
					t.Errorf("P15.2: size %d, full: %d, the time %d: %d %v %v", size, key, n, v, e, built)
				}
			}
		}
		if !slices.Equal(m.Keys(nil), keys) {
			t.Errorf("P15.3: size %d: one that was refused is there", size)
		}
	}
}

// TestSteps: of each call, where nobody else goes between them. (Of two places 0, 2, 4, 5 and 7 come to the first one, 1, 3, 6 and 8 to the second one; of four 0, 2 and 5 to the first, 4 and 7 to the second, 1, 6 and 9 to the third, 3 and 8 to the last one.)
func TestSteps(t *testing.T) {
	a, b := gives("A", 5), gives("B", 6)
	const found1 = "0 load c0: 2; 0 cas c1 0 1: 2 no; 0 load c1: 2"
	built := []call{gets(1, a)}
	for _, row := range []struct {
		size  int
		first []call
		calls []call
		log   string
		want  string
	}{
		{4, nil, []call{gets(1, a)}, "0 load c0: 0; 0 cas c0 0 2: 0 ok; 0 cas c1 0 1: 0 ok; 0 mark 1 5; 0 mark 1 6; 0 store c1 2: 1; 0 swap c2 -1: 0", "A( ) get1:built:5"},
		{4, nil, []call{gets(0, gives("A", 0))}, "0 load c0: 0; 0 cas c0 0 1: 0 ok; 0 cas c1 0 1: 0 ok; 0 mark 0 5; 0 mark 0 6; 0 store c1 2: 1; 0 swap c2 -1: 0", "A( ) get0:built:0"},
		{1, nil, []call{gets(math.MaxInt64-1, gives("A", -1))}, "0 load c0: 0; 0 cas c0 0 9223372036854775807: 0 ok; 0 cas c1 0 1: 0 ok; 0 mark 9223372036854775806 5; 0 mark 9223372036854775806 6; 0 store c1 2: 1; 0 swap c2 -1: 0", "A( ) get9223372036854775806:built:-1"},
		{4, nil, []call{gets(1, gives("A", 5, adds(), adds()))}, "0 load c0: 0; 0 cas c0 0 2: 0 ok; 0 cas c1 0 1: 0 ok; 0 mark 1 5; 0 add c2 1: 0; 0 add c2 1: 1; 0 mark 1 6; 0 store c1 2: 1; 0 swap c3 -1: 0", "A( add:1 add:2 ) get1:built:5"},
		{4, nil, []call{gets(1, fails("A", io.EOF))}, "0 load c0: 0; 0 cas c0 0 2: 0 ok; 0 cas c1 0 1: 0 ok; 0 mark 1 5; 0 mark 1 6; 0 store c1 3: 1; 0 swap c2 -1: 0", "A( ) get1:built:EOF"},
		{4, nil, []call{gets(1, fails("A", api.OK))}, "0 load c0: 0; 0 cas c0 0 2: 0 ok; 0 cas c1 0 1: 0 ok; 0 mark 1 5; 0 mark 1 6; 0 store c1 3: 1; 0 swap c2 -1: 0", "A( ) get1:built:errno:0"},
		{4, nil, []call{gets(1, fallen("A", adds()))}, "0 load c0: 0; 0 cas c0 0 2: 0 ok; 0 cas c1 0 1: 0 ok; 0 mark 1 5; 0 add c2 1: 0; 0 mark 1 6; 0 store c1 3: 1; 0 swap c3 -1: 0", "A( add:1 ) get1:built:panicked:A"},
		{4, built, []call{gets(1, b)}, found1, "get1:5"},
		{4, built, []call{gets(1, b), gets(1, a)}, found1 + "; " + found1, "get1:5 get1:5"},
		{1, []call{gets(7, a)}, []call{gets(7, b)}, "0 load c0: 8; 0 cas c1 0 1: 2 no; 0 load c1: 2", "get7:5"},
		{4, []call{gets(1, fails("A", io.EOF))}, []call{gets(1, b)}, "0 load c0: 2; 0 cas c1 0 1: 3 no; 0 load c1: 3", "get1:EOF"},
		{4, []call{gets(1, fallen("A"))}, []call{gets(1, b)}, "0 load c0: 2; 0 cas c1 0 1: 3 no; 0 load c1: 3", "get1:panicked:A"},
		{4, built, []call{gets(6, b)}, "0 load c0: 2; 0 load c1: 0; 0 cas c1 0 7: 0 ok; 0 cas c2 0 1: 0 ok; 0 mark 6 5; 0 mark 6 6; 0 store c2 2: 1; 0 swap c3 -1: 0", "B( ) get6:built:6"},
		{4, []call{gets(1, a), gets(6, b)}, []call{gets(6, a)}, "0 load c0: 2; 0 load c1: 7; 0 cas c2 0 1: 2 no; 0 load c2: 2", "get6:6"},
		{4, []call{gets(3, a)}, []call{gets(8, b)}, "0 load c0: 4; 0 load c1: 0; 0 cas c1 0 9: 0 ok; 0 cas c2 0 1: 0 ok; 0 mark 8 5; 0 mark 8 6; 0 store c2 2: 1; 0 swap c3 -1: 0", "B( ) get8:built:6"},
		{4, []call{gets(3, a), gets(8, b), gets(4, a), gets(6, a)}, []call{gets(8, a), gets(1, b), gets(12, b)}, "0 load c0: 4; 0 load c1: 9; 0 cas c2 0 1: 2 no; 0 load c2: 2; 0 load c3: 7; 0 load c0: 4; 0 load c1: 9; 0 load c4: 5; 0 load c4: 5; 0 load c3: 7; 0 load c0: 4; 0 load c1: 9", "get8:6 get1:errno:12 get12:errno:12"},
		{1, []call{gets(7, a)}, []call{gets(6, b)}, "0 load c0: 8", "get6:errno:12"},
		{2, []call{gets(7, a), gets(8, b)}, []call{gets(3, b)}, "0 load c0: 9; 0 load c1: 8", "get3:errno:12"},
		{4, nil, []call{gets(-1, a), gets(math.MinInt64, a), gets(math.MaxInt64, a), gets(1, nil), gets(-1, nil)}, "", "get-1:errno:1 get-9223372036854775808:errno:1 get9223372036854775807:errno:1 get1:errno:1 get-1:errno:1"},
		{1, []call{gets(7, a)}, []call{gets(7, nil), gets(6, nil), gets(-1, b), gets(math.MaxInt64, b)}, "", "get7:errno:1 get6:errno:1 get-1:errno:1 get9223372036854775807:errno:1"},
		{4, built, []call{getsOf(-1, 1, a), getsOf(-1, 1, nil), getsOf(-1, -1, a), getsOf(-1, math.MaxInt64, a), lists(-1)}, "", "get1@-1:errno:2 get1@-1:errno:2 get-1@-1:errno:2 get9223372036854775807@-1:errno:2 keys@-1:[]"},
		{4, nil, []call{lists(0)}, "0 load c0: 0; 0 load c1: 0; 0 load c2: 0; 0 load c3: 0", "keys:[]"},
		{1, nil, []call{lists(0), gets(0, a), lists(0)}, "0 load c0: 0; 0 load c0: 0; 0 cas c0 0 1: 0 ok; 0 cas c1 0 1: 0 ok; 0 mark 0 5; 0 mark 0 6; 0 store c1 2: 1; 0 swap c2 -1: 0; 0 load c0: 1", "keys:[] A( ) get0:built:5 keys:[0]"},
		{4, []call{gets(8, a), gets(3, a), gets(1, a)}, []call{lists(0)}, "0 load c0: 4; 0 load c1: 0; 0 load c2: 2; 0 load c3: 9", "keys:[3,1,8]"},
		{2, []call{gets(math.MaxInt64-1, fallen("A")), gets(0, a)}, []call{lists(0)}, "0 load c0: 9223372036854775807; 0 load c1: 1", "keys:[9223372036854775806,0]"},
		{4, nil, []call{gets(1, gives("A", 5, gets(2, gives("B", 6))))}, "0 load c0: 0; 0 cas c0 0 2: 0 ok; 0 cas c1 0 1: 0 ok; 0 mark 1 5; 0 load c2: 0; 0 cas c2 0 3: 0 ok; 0 cas c3 0 1: 0 ok; 0 mark 2 5; 0 mark 2 6; 0 store c3 2: 1; 0 swap c4 -1: 0; 0 mark 1 6; 0 store c1 2: 1; 0 swap c5 -1: 0", "A( B( ) get2:built:6 ) get1:built:5"},
		{1, nil, []call{gets(1, gives("A", 5, gets(2, b), lists(0)))}, "0 load c0: 0; 0 cas c0 0 2: 0 ok; 0 cas c1 0 1: 0 ok; 0 mark 1 5; 0 load c0: 2; 0 load c0: 2; 0 mark 1 6; 0 store c1 2: 1; 0 swap c2 -1: 0", "A( get2:errno:12 keys:[1] ) get1:built:5"},
	} {
		w := ours(row.size, row.first...)
		report, got := w.one(row.calls...)
		if log := aid.Texts(report.Log); log != row.log || got != row.want || report.End != api.Over || len(w.follows()) != 0 {
			t.Errorf("P15.2, P15.3: %v behind %v:\n got %s: %s\nwant %s: %s: %v", texts(row.calls), texts(row.first), got, log, row.want, row.log, w.follows())
		}
	}
}

// TestNewMakesNoAccess: nor does Place, even where their thread has others to make; each memo is another one, and has no keys.
func TestNewMakesNoAccess(t *testing.T) {
	var x, y *memo.Memo
	r := gate.Run(nil, 9, func(th *gate.Thread) {
		x, y = memo.New(1), memo.New(1)
		memo.Place(5, 4)
		th.Mark(1, 10)
		x.Keys(th)
	})
	if got, want := aid.Texts(r.Log), "0 mark 1 10; 0 load c0: 0"; got != want || x == y || x == nil || len(y.Keys(nil)) != 0 {
		t.Errorf("P15.1: %s, not %s", got, want)
	}
}

// TestSequences: all short rows of calls of small memos, free and by a thread.
func TestSequences(t *testing.T) {
	calls := []call{
		gets(1, gives("A", 1)), gets(1, fallen("B")), gets(3, fails("C", io.EOF, adds())), gets(6, gives("D", 4, gets(1, gives("E", 5)))), gets(0, fallen("F", gets(3, gives("G", 6)))), lists(0),
		gets(-1, gives("H", 1)), gets(1, nil), gets(6, gives("I", 4, gets(6, gives("never", 1)))), gets(2, gives("J", 1, lists(0), gets(8, gives("K", 3)))),
	}
	for _, size := range []int{1, 2, 4} {
		for _, l := range aid.Rows(calls, 4) {
			if size == 4 && len(l) == 4 {
				break // as the shorter ones, but for memos that are full
			}
			w, as := newWorld(made, size), newWorld(newWords, size)
			want := as.alone(l...)
			if got := w.alone(l...); got != want || len(w.follows()) != 0 {
				t.Fatalf("P15.2, P15.3: free: size %d: %v: %s, not %s: %v", size, l, got, want, w.follows())
			}
			w = newWorld(made, size)
			w.awake = true
			if r, got := w.one(l...); got != want || len(w.follows()) != 0 || r.End != api.Over {
				t.Fatalf("P15.2, P15.3: by a thread: size %d: %v: %s, not %s: %v", size, l, got, want, w.follows())
			}
		}
	}
}

// TestRefused: what is refused makes no access but the looks at others' keys, and changes nothing.
func TestRefused(t *testing.T) {
	never := gives("never", 1)
	for what, first := range map[string][]call{
		"new": nil, "with a key": {gets(1, gives("A", 5))}, "full": {gets(1, gives("A", 5)), gets(2, fallen("B"))}, "full, one sleeps": {gets(1, gives("A", 5, gets(1, never))), gets(2, gives("B", 1))},
	} {
		calls := []call{gets(-1, never), gets(math.MinInt64, never), gets(math.MaxInt64, never), gets(1, nil), gets(0, nil), gets(-1, nil), getsOf(-1, 1, never), getsOf(-1, -1, nil), lists(-1), lists(9)}
		looks := []call{gets(3, never), gets(6, never), gets(math.MaxInt64-1, never), lists(0)}
		w, as := newWorld(made, 2), newWorld(newWords, 2)
		w.alone(first...)
		as.alone(first...)
		for _, c := range calls {
			report, got := w.one(c)
			if len(report.Log) != 0 || got != as.makes(nil, c) || got != w.makes(nil, c) {
				t.Errorf("R2: %s: %v: %s: %s", what, c, got, aid.Texts(report.Log))
			}
		}
		if strings.HasPrefix(what, "full") {
			for _, c := range looks {
				report, got := w.one(c)
				if len(report.Log) != 2 || slices.ContainsFunc(report.Log, func(a api.Access) bool { return a.Op != api.OpLoad }) || got != as.makes(nil, c) {
					t.Errorf("R2: %s: %v: %s: %s", what, c, got, aid.Texts(report.Log))
				}
			}
		}
		then := []call{lists(0), gets(1, gives("C", 8)), gets(2, gives("D", 9)), lists(0), gets(1, never), gets(2, never), gets(3, never)}
		if got, want := w.alone(then...), as.alone(then...); got != want || len(w.follows()) != 0 {
			t.Errorf("R2: %s: %s, not %s: %v", what, got, want, w.follows())
		}
	}
}

// TestNone: memos that are none, by threads of every kind: no access, and nothing is built.
func TestNone(t *testing.T) {
	var null *memo.Memo
	asked := func(who string, th *gate.Thread) {
		for what, m := range map[string]*memo.Memo{"nil": null, "made by no call": {}, "made by new": new(memo.Memo), "of no such size": memo.New(3)} {
			for _, key := range aid.Values() {
				for _, f := range []function{nil, func(*gate.Thread) (int64, error) { t.Errorf("R3: %s, by %s: it is built", what, who); return 1, nil }} {
					if v, e, built := m.Get(th, key, f); v != 0 || e != error(api.ErrNil) || built {
						t.Errorf("R3: %s, by %s: %d: %d %v %v", what, who, key, v, e, built)
					}
				}
			}
			if l := m.Keys(th); len(l) != 0 {
				t.Errorf("P15.3: %s, by %s: %v", what, who, l)
			}
		}
		m := memo.New(1)
		for _, key := range aid.Values() {
			if v, e, built := m.Get(th, key, nil); v != 0 || e != error(api.ErrArg) || built {
				t.Errorf("P15.2: no build, by %s: %d: %d %v %v", who, key, v, e, built)
			}
		}
		memo.Place(7, 4)
	}
	for _, f := range aid.Idle(asked) {
		t.Errorf("R3: %s", f)
	}
}

// TestNotLiving: a call that is handed a thread that does not live makes no access, and no mark, of the thread in whose goroutine it is, nor does its build.
func TestNotLiving(t *testing.T) {
	for what, th := range aid.NotLiving() {
		w, got := newWorld(made, 4, 1), ""
		w.awake = true
		r := gate.Run(nil, 9, func(*gate.Thread) {
			got = w.makes(th, gets(1, gives("A", 5, adds(), getsOf(1, 2, fallen("B")), lists(1))), gets(1, gives("never", 6)), getsOf(1, 3, gives("never", 6)), gets(6, fails("C", io.EOF)), lists(0), gets(2, gives("D", 1, gets(2, gives("never", 1)))))
		})
		if want := "A( add:1 B( ) get2@1:built:panicked:B keys@1:[2] ) get1:built:5 get1:5 get3@1:errno:12 C( ) get6:built:EOF keys:[1,6] D( get2:sleeps ) get2:built:1"; got != want || len(r.Log) != 0 || r.End != api.Over {
			t.Errorf("P15.2, P15.3: %s: %s, not %s: %+v", what, got, want, r)
		}
	}
}

// TestEachIsItsOwn: what one memo has another has not; nor has one key what another has, wherever they stand.
func TestEachIsItsOwn(t *testing.T) {
	w := newWorld(made, 4, 4, 8)
	got := w.alone(gets(1, gives("A", 5)), getsOf(1, 1, gives("B", 6)), gets(6, gives("C", 7)), getsOf(2, 6, fallen("D")), lists(0), lists(1), lists(2), gets(1, gives("never", 1)), getsOf(1, 1, gives("never", 1)), gets(6, gives("never", 1)), getsOf(2, 6, gives("never", 1)), getsOf(1, 6, gives("E", 8)), lists(1))
	want := "A( ) get1:built:5 B( ) get1@1:built:6 C( ) get6:built:7 D( ) get6@2:built:panicked:D keys:[1,6] keys@1:[1] keys@2:[6] get1:5 get1@1:6 get6:7 get6@2:panicked:D E( ) get6@1:built:8 keys@1:[1,6]"
	if got != want || len(w.follows()) != 0 {
		t.Errorf("P15.1 to P15.3: %s, not %s: %v", got, want, w.follows())
	}
}

// TestKeysAreTheCallersOwn: a list of keys, with its spare room, is nobody else's.
func TestKeysAreTheCallersOwn(t *testing.T) {
	m := memo.New(8)
	for key := range int64(5) {
		m.Get(nil, key, func(*gate.Thread) (int64, error) { return key, nil })
	}
	l := m.Keys(nil)
	want := slices.Clone(l)
	other := m.Keys(nil)
	for _, x := range [][]int64{l[:cap(l)], append(l, 77)} {
		for i := range x {
			x[i] = -5
		}
	}
	if got := m.Keys(nil); !slices.Equal(got, want) || !slices.Equal(other, want) || len(want) != 5 {
		t.Errorf("R5: %v, %v, not %v", got, other, want)
	}
	for key := range int64(5) {
		if v, e, built := m.Get(nil, key, func(*gate.Thread) (int64, error) { return 99, nil }); v != key || e != nil || built {
			t.Errorf("R5: %d: %d %v %v", key, v, e, built)
		}
	}
}
