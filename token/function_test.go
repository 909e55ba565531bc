package token_test

import (
	"errors"
	"runtime"
	"slices"
	"strings"
	"testing"
	"weak"

	"treadle/aid"
	"treadle/api"
	"treadle/cell"
	"treadle/gate"
	"treadle/token"
)

// TestDeeds: what functions do to their token, to those above and below it, and to others, by each thread that does not live, and by one that does.
func TestDeeds(t *testing.T) {
	by(t, func(who string, th *gate.Thread) { deeds(t, who, th) })
}

func deeds(t *testing.T, who string, th *gate.Thread) {
	b, c := quiet("B"), quiet("C")
	siblings := func(d *deed) []call { return []call{bears(0), bears(0), sets(1, d), sets(2, c), cancels(0, 5)} }
	for _, row := range []struct {
		what    string
		calls   []call
		want    string
		reasons string // of all tokens, behind that
	}{
		{"it asks its token", []call{sets(0, busy("A", asks(0), waits(0))), cancels(0, 5)}, "ok A:5( 5 woke:5 ) yes", "5"},
		{"it cancels its token", []call{sets(0, busy("A", cancels(0, 7), cancels(0, 5), cancels(0, 0))), cancels(0, 5)}, "ok A:5( no no no ) yes", "5"},
		{"it makes a child of its token", []call{sets(0, busy("A", bears(0), asks(1), cancels(1, 7), bears(1), sets(2, b))), cancels(0, 5)}, "ok A:5( #1 5 no #2 B:5( ) ok ) yes", "5 5 5"},
		{"it sets functions at its token", []call{sets(0, busy("A", sets(0, b), sets(0, busy("D", sets(0, b))))), sets(0, c), cancels(0, 5)}, "ok ok A:5( B:5( ) ok D:5( B:5( ) ok ) ok ) C:5( ) yes", "5"},
		{"it asks wrongly", []call{sets(0, busy("A", sets(0, nil), sets(-1, b), bears(-1), cancels(-1, 1), asks(-1))), cancels(0, 5)}, "ok A:5( ErrArg ErrNil ErrNil no 0 ) yes", "5"},
		{"it asks one above its token", []call{bears(0), sets(1, busy("A", asks(0), bears(0), asks(2))), cancels(1, 5)}, "#1 ok A:5( 0 #2 0 ) yes", "0 5 0"},
		{"then that is cancelled", []call{bears(0), sets(1, busy("A", bears(0), sets(2, b), sets(0, c))), cancels(1, 5), cancels(0, 3)}, "#1 ok A:5( #2 ok ok ) yes B:3( ) C:3( ) yes", "3 5 3"},
		{"it asks one above its token, which is being cancelled", []call{bears(0), sets(1, busy("A", asks(0), bears(0), asks(2), cancels(0, 9), sets(0, b))), cancels(0, 5)}, "#1 ok A:5( 5 #2 5 no B:5( ) ok ) yes", "5 5 5"},
		{"it cancels one above its token", []call{bears(0), bears(0), sets(0, b), sets(1, busy("A", cancels(0, 9), asks(2))), sets(1, c), cancels(1, 5)}, "#1 #2 ok ok ok A:5( B:9( ) yes 9 ) C:5( ) yes", "9 5 9"},
		{"it asks a sibling that is to come", siblings(busy("A", asks(2))), "#1 #2 ok ok A:5( 0 ) C:5( ) yes", "5 5 5"},
		{"it makes children of a sibling that is to come", siblings(busy("A", bears(2), sets(3, b), asks(3))), "#1 #2 ok ok A:5( #3 ok 0 ) C:5( ) B:5( ) yes", "5 5 5 5"},
		{"it sets functions at a sibling that is to come", siblings(busy("A", sets(2, b), sets(2, busy("D", asks(2))))), "#1 #2 ok ok A:5( ok ok ) C:5( ) B:5( ) D:5( 5 ) yes", "5 5 5"},
		{"it cancels a sibling that is to come", siblings(busy("A", cancels(2, 9), asks(2))), "#1 #2 ok ok A:5( C:9( ) yes 9 ) yes", "5 5 9"},
		{"it asks a sibling that was ahead of it", []call{bears(0), bears(0), sets(2, busy("A", asks(1), bears(1), sets(1, b), cancels(1, 9))), cancels(0, 5)}, "#1 #2 ok A:5( 5 #3 B:5( ) ok no ) yes", "5 5 5 5"},
		{"it asks a child that was ahead of it", []call{bears(0), sets(0, busy("A", asks(1))), cancels(0, 5)}, "#1 ok A:5( 5 ) yes", "5 5"},
		{"it makes children below one that is born cancelled", []call{sets(0, busy("A", bears(0), bears(1), bears(2), sets(3, b), asks(3))), cancels(0, 5)}, "ok A:5( #1 #2 #3 B:5( ) ok 5 ) yes", "5 5 5 5"},
		{"it finds no room elsewhere", slices.Concat([]call{bears(0), bears(0), sets(1, busy("A", bears(2), sets(2, b)))}, fills(64, 2), []call{cancels(1, 5)}), "#1 #2 ok " + filled(3) + " A:5( ErrFull ErrFull ) yes", "0 5" + strings.Repeat(" 0", 22)},
		{"it asks one that was full", append(fills(64, 0), cancels(0, 5), sets(0, busy("A", bears(0), sets(0, b)))), filled(1) + " " + called(64, "5") + " yes A:5( #22 B:5( ) ok ) ok", "5" + strings.Repeat(" 5", 22)},
		{"it is set twice", []call{sets(0, b), sets(0, c), sets(0, b), cancels(0, 5), sets(0, b)}, "ok ok ok B:5( ) C:5( ) B:5( ) yes B:5( ) ok", "5"},
		{"it panics", []call{sets(0, c), sets(0, fallen("A", asks(0))), sets(0, b), bears(0), cancels(0, 5), asks(0), asks(1), cancels(0, 7), sets(0, b), bears(0), cancels(1, 8)}, "ok ok ok #1 C:5( ) A:5( 5 fell:A 5 0 no B:5( ) ok #2 yes", "5 8 5"},
		{"it panics where it is called at once", []call{cancels(0, 5), sets(0, fallen("A")), sets(0, b)}, "yes A:5( fell:A B:5( ) ok", "5"},
		{"it panics below", []call{bears(0), bears(1), sets(2, fallen("A")), sets(2, b), sets(1, b), sets(0, b), bears(1), bears(0), cancels(0, 5), cancels(4, 6)}, "#1 #2 ok ok ok ok #3 #4 A:5( fell:A yes", "5 5 5 0 6"},
		{"it cancels another that panics", []call{bears(0), bears(0), sets(2, fallen("B")), sets(2, c), sets(1, busy("A", cancels(2, 9), asks(2))), cancels(0, 5)}, "#1 #2 ok ok ok A:5( B:9( fell:B 9 ) yes", "5 5 9"},
		{"it sets one that panics at once", []call{sets(0, busy("A", sets(0, fallen("B")), asks(0))), sets(0, c), cancels(0, 5)}, "ok ok A:5( B:5( fell:B 5 ) C:5( ) yes", "5"},
	} {
		w := made()
		got := w.makes(th, row.calls...)
		var all []call
		for i := range w.all {
			all = append(all, asks(i))
		}
		if reasons := w.makes(th, all...); got != row.want || reasons != row.reasons {
			t.Errorf("P11.2 to P11.4: %s, by %s: %v:\n got %s; %s\nwant %s; %s", row.what, who, row.calls, got, reasons, row.want, row.reasons)
		}
	}
}

// filled: what is told of fills of 64, whose first child has this number.
func filled(from int) string {
	var l []string
	for i := range 64 {
		if i%3 == 2 {
			l = append(l, news(from+i/3, 1))
		} else {
			l = append(l, "ok")
		}
	}
	return strings.Join(l, " ")
}

// called: what the functions of so many fills tell.
func called(n int, reason string) string {
	var l []string
	for _, c := range fills(n, 0) {
		if c.op == set {
			l = append(l, c.does.name+":"+reason+"( )")
		}
	}
	return strings.Join(l, " ")
}

// TestWhatComesOut: a function's own panic, with the same value, out of the Cancel of its token, out of one above, and out of an OnCancel, by a thread and free.
func TestWhatComesOut(t *testing.T) {
	for what, x := range map[string]any{"number": 3, "text": "x", "error": errors.New("e"), "pointer": new(int), "false": false, "errno": api.ErrFull, "array": [2]int{1, 2}} {
		comesOut(t, what, func(*gate.Thread, int64) { panic(x) }, func(out any) bool { return out == x })
	}
	list := []int{1, 2}
	comesOut(t, "what cannot be compared", func(*gate.Thread, int64) { panic(list) }, func(out any) bool { return &out.([]int)[0] == &list[0] })
	comesOut(t, "nil", func(*gate.Thread, int64) { panic(nil) }, func(out any) bool {
		var none *runtime.PanicNilError
		return errors.As(out.(error), &none)
	})
	comesOut(t, "an index", func(*gate.Thread, int64) { _ = list[len(list)] }, func(out any) bool {
		var at runtime.Error
		return errors.As(out.(error), &at)
	})
	_, own := aid.Stopped()
	comesOut(t, "the gate's own, of another thread", func(*gate.Thread, int64) { panic(own) }, gate.Is)
	comesOut(t, "another one ahead of it", func(*gate.Thread, int64) {
		defer panic("x")
		panic("y")
	}, func(out any) bool { return out == "x" })
}

func comesOut(t *testing.T, what string, f func(t *gate.Thread, reason int64), fits func(out any) bool) {
	t.Helper()
	falls := func(who string, th *gate.Thread) {
		for above := range 3 { // so far above its token the Cancel is
			w := made(chain(above, 0)...)
			called := 0
			counts := func(*gate.Thread, int64) { called++ }
			k, root := w.all[above], w.all[0]
			k.OnCancel(th, counts)
			k.OnCancel(th, f)
			k.OnCancel(th, counts)
			low, _ := k.Child(th)
			root.OnCancel(th, counts)
			out := aid.Caught(func() { root.Cancel(th, 4) })
			if !fits(out) || called != 1 || k.Reason(th) != 4 || root.Reason(th) != 4 || low.Reason(th) != 0 {
				t.Errorf("P11.4: %s, by %s, %d above: %v comes out; %d are called", what, who, above, out, called)
			}
			if root.Cancel(th, 5) || k.Cancel(th, 5) || !low.Cancel(th, 6) || low.Reason(th) != 6 || called != 1 {
				t.Errorf("P11.4: %s, by %s, %d above: behind it", what, who, above)
			}
			out = aid.Caught(func() { k.OnCancel(th, f) })
			if e := k.OnCancel(th, counts); !fits(out) || e != api.OK || called != 2 {
				t.Errorf("P11.3: %s, by %s, %d above: %v comes out; then %d", what, who, above, out, e)
			}
		}
	}
	by(t, falls)
	k := token.New()
	k.OnCancel(nil, f)
	r := gate.Run(nil, api.MaxTurns, func(th *gate.Thread) { k.Cancel(th, 4) }, func(th *gate.Thread) { k.OnCancel(th, f) })
	if r.End != api.Over || !slices.Equal(r.Fell, []int{0}) && !slices.Equal(r.Fell, []int{0, 1}) {
		t.Errorf("P11.3, P11.4: %s: not recovered: %+v", what, r)
	}
}

// TestExits: a function that ends its goroutine does not come back, either.
func TestExits(t *testing.T) {
	w := made()
	exits := func(*gate.Thread, int64) { runtime.Goexit() }
	k := w.all[0]
	k.OnCancel(nil, exits)
	w.makes(nil, sets(0, quiet("A")), bears(0))
	aid.Beside(1, func(int) {
		k.Cancel(nil, 3)
		t.Error("P11.4: it comes back")
	})
	aid.Beside(1, func(int) {
		k.OnCancel(nil, exits)
		t.Error("P11.3: it comes back")
	})
	if got, want := w.makes(nil, asks(0), asks(1), cancels(0, 4), sets(0, quiet("B")), bears(0), asks(2)), "3 0 no B:3( ) ok #2 3"; got != want {
		t.Errorf("P11.4: %s, not %s", got, want)
	}
}

// TestStoppedInItsMidst: a function whose thread is stopped, whatever it does about that: nothing that stands behind it is done.
func TestStoppedInItsMidst(t *testing.T) {
	x := cell.New(0)
	adds := func(t *gate.Thread) { x.Add(t, 1) }
	recovers := func(t *gate.Thread) { _ = aid.Caught(func() { adds(t) }) }
	own := func(out any) bool { return gate.Is(out) }
	for what, row := range map[string]struct {
		f    func(t *gate.Thread)
		fits func(out any) bool
	}{
		"goes on":                        {adds, own},
		"recovers, and comes back":       {recovers, own},
		"recovers, and accesses more":    {func(t *gate.Thread) { recovers(t); adds(t) }, own},
		"recovers, and panics":           {func(t *gate.Thread) { recovers(t); panic("x") }, func(out any) bool { return out == "x" }},
		"defers an access":               {func(t *gate.Thread) { defer adds(t); adds(t) }, own},
		"panics, and accesses meanwhile": {func(t *gate.Thread) { defer adds(t); panic("x") }, own},
	} {
		w := made()
		k := w.all[0]
		k.OnCancel(nil, func(t *gate.Thread, _ int64) { row.f(t) })
		w.makes(nil, bears(0), sets(1, quiet("A")), sets(0, quiet("B")))
		var out any
		r := gate.Run(nil, 2, func(t *gate.Thread) { out = aid.Caught(func() { k.Cancel(t, 3) }) })
		if !row.fits(out) || r.End != api.Cut || aid.Texts(r.Log) != "0 cas c0 0 3: 0 ok; 0 swap c1 -1: 3" || aid.Texts(r.Left) != "0 add c-1 1: 0" {
			t.Errorf("P11.4: %s: %v comes out: %+v", what, out, r)
		}
		if got, want := w.makes(nil, asks(0), asks(1), cancels(0, 4), bears(0), sets(0, quiet("C")), asks(2), cancels(1, 6)), "3 0 no #2 C:3( ) ok 3 A:6( ) yes"; got != want || x.Load(nil) != 0 {
			t.Errorf("P11.4: %s: then %s, not %s", what, got, want)
		}
	}
	k := token.New()
	k.Cancel(nil, 3)
	var out any
	r := gate.Run(nil, 2, func(t *gate.Thread) {
		out = aid.Caught(func() { k.OnCancel(t, func(t *gate.Thread, _ int64) { adds(t) }) })
	})
	if !gate.Is(out) || r.End != api.Cut || aid.Texts(r.Left) != "0 add c-1 1: 0" || x.Load(nil) != 0 {
		t.Errorf("P11.3: %v comes out: %+v", out, r)
	}
}

// TestItIsHandedTheThread: just the one that the Cancel, or the OnCancel, was handed, and its accesses are that thread's.
func TestItIsHandedTheThread(t *testing.T) {
	for what, th := range aid.NotLiving() {
		k, called := token.New(), 0
		low, _ := k.Child(nil)
		is := func(u *gate.Thread, reason int64) {
			if called++; u != th || reason != 8 {
				t.Errorf("P11.3, P11.4: %s: it is handed another, or %d", what, reason)
			}
		}
		k.OnCancel(nil, is)
		low.OnCancel(nil, is)
		k.Cancel(th, 8)
		if k.OnCancel(th, is); called != 3 {
			t.Errorf("P11.3, P11.4: %s: %d are called", what, called)
		}
	}
	k, x := token.New(), cell.New(0)
	f := func(u *gate.Thread, reason int64) {
		x.Add(u, reason)
		u.Mark(reason, 10)
	}
	r := gate.Run(aid.Goes([2]int{0, 4}, [2]int{1, 9}), api.MaxTurns, func(th *gate.Thread) {
		k.OnCancel(th, f)
		th.Mark(0, 11)
		k.OnCancel(th, f)
	}, func(th *gate.Thread) { k.Cancel(th, 8) })
	want := "0 load c0: 0; 0 add c1 1: 0; 0 cas c0 0 1: 0 ok; 0 mark 0 11; 0 load c0: 1; 1 cas c2 0 8: 0 ok; 1 swap c0 -1: 1; 1 add c3 8: 0; 1 mark 8 10; 0 add c1 1: 1; 0 cas c0 1 2: -1 no; 0 load c0: -1; 0 load c2: 8; 0 add c3 8: 8; 0 mark 8 10"
	if aid.Texts(r.Log) != want || r.End != api.Over {
		t.Errorf("P11.3, P11.4: %s\nnot %s", aid.Texts(r.Log), want)
	}
}

// TestItBeginsThreads: a function may begin a thread, which finds the token cancelled.
func TestItBeginsThreads(t *testing.T) {
	w := made(bears(0))
	k, low := w.all[0], w.all[1]
	got := ""
	k.OnCancel(nil, func(t *gate.Thread, _ int64) {
		t.Go(func(t *gate.Thread) {
			got = w.makes(t, asks(0), waits(1), bears(0), asks(2), sets(0, quiet("A")), cancels(0, 4))
		})
	})
	next, _ := k.Child(nil)
	r := gate.Run(nil, api.MaxTurns, func(t *gate.Thread) { k.Cancel(t, 2) })
	if want := "2 woke:2 #2 2 A:2( ) ok no"; got != want || r.End != api.Over || low.Reason(nil) != 2 || next.Reason(nil) != 2 {
		t.Errorf("P11.4: %s, not %s: %+v", got, want, r)
	}
}

// TestNoFunctionIsKept: one that nobody will call any more is not kept by its token.
func TestNoFunctionIsKept(t *testing.T) {
	cancels := func(k *token.Token, t *gate.Thread) { _ = aid.Caught(func() { k.Cancel(t, 3) }) }
	free := func(k *token.Token) { cancels(k, nil) }
	nothing := func(*token.Token) {}
	falls := func(k *token.Token) { k.OnCancel(nil, func(*gate.Thread, int64) { panic("x") }) }
	fills := func(k *token.Token) {
		for range 64 {
			k.Child(nil)
		}
	}
	for what, row := range map[string]struct {
		first func(k *token.Token) // ahead of it
		picks []int                // of it, and of another thread's Cancel
		turns int
		then  func(k *token.Token)
		kept  bool
	}{
		"set":                                {nothing, nil, 3, nothing, true},
		"set, and another Cancel is refused": {nothing, nil, 3, func(k *token.Token) { k.Cancel(nil, 0) }, true},
		"cancelled, the list still open":     {nothing, aid.Goes([2]int{0, 3}), 4, free, true},
		"called":                             {nothing, aid.Goes([2]int{0, 3}), 99, nothing, false},
		"called, free":                       {nothing, nil, 3, free, false},
		"behind one that fell":               {falls, nil, 3, free, false},
		"called at once":                     {free, nil, 99, nothing, false},
		"refused":                            {fills, nil, 99, nothing, false},
		"cancelled in its midst":             {nothing, []int{0, 0, 1, 1}, 99, nothing, false},
		"stopped ahead of a place":           {nothing, nil, 1, nothing, false},
		"stopped with a place":               {nothing, aid.Goes([2]int{0, 2}), 2, nothing, false},
		"stopped when it was told of that":   {free, aid.Goes([2]int{0, 1}), 1, nothing, false},
	} {
		k := token.New()
		row.first(k)
		other := func(t *gate.Thread) {
			if len(row.picks) > 0 {
				cancels(k, t)
			}
		}
		v := held(k, row.picks, row.turns, other)
		row.then(k)
		if kept := isKept(v); kept != row.kept {
			t.Errorf("P11.3, P11.4: %s: the function is kept: %v", what, kept)
		}
		runtime.KeepAlive(k)
	}
}

// value: one that holds memory.
type value [100]int

// held: what the function holds that a thread sets; nobody else keeps it.
func held(k *token.Token, picks []int, turns int, other func(t *gate.Thread)) weak.Pointer[value] {
	v := new(value)
	gate.Run(picks, turns, func(t *gate.Thread) { k.OnCancel(t, func(*gate.Thread, int64) { v[0]++ }) }, other)
	return weak.Make(v)
}

func isKept[T any](p weak.Pointer[T]) bool {
	for range 9 {
		runtime.GC()
	}
	return p.Value() != nil
}

// TestNoChildIsKept: one that is not to be cancelled any more is not kept by the token above it; nor does it keep that.
func TestNoChildIsKept(t *testing.T) {
	child := func(k *token.Token) weak.Pointer[token.Token] {
		x, _ := k.Child(nil)
		return weak.Make(x)
	}
	for what, row := range map[string]struct {
		first []call
		then  []call
		kept  bool
	}{
		"it lives":          {nil, []call{bears(0)}, true},
		"it is cancelled":   {nil, []call{cancels(0, 3)}, false},
		"one ahead of fell": {[]call{sets(0, fallen("A"))}, []call{cancels(0, 3)}, false},
		"born cancelled":    {[]call{cancels(0, 3)}, nil, false},
	} {
		w := made(row.first...)
		x := child(w.all[0])
		w.makes(nil, row.then...)
		if kept := isKept(x); kept != row.kept {
			t.Errorf("P11.2, P11.4: %s: the child is kept: %v", what, kept)
		}
		runtime.KeepAlive(w)
	}
	above := func() (weak.Pointer[token.Token], *token.Token) {
		k := token.New()
		x, _ := k.Child(nil)
		return weak.Make(k), x
	}
	k, x := above()
	if isKept(k) {
		t.Errorf("P11.2: the one above is kept by its child")
	}
	runtime.KeepAlive(x)
}
