package future_test

import (
	"errors"
	"io"
	"runtime"
	"slices"
	"strings"
	"testing"
	"weak"

	"treadle/aid"
	"treadle/api"
	"treadle/cell"
	"treadle/future"
	"treadle/gate"
)

// TestDeeds: what functions do to their own future and to others, by each thread that does not live, and by one that does.
func TestDeeds(t *testing.T) {
	a, b := quiet("A"), quiet("B")
	full := strings.Join(slices.Repeat([]string{"then1:ok"}, 64), " ")
	by(t, func(who string, th *gate.Thread) {
		for _, row := range []struct {
			what  string
			calls []call
			want  string
		}{
			{"it asks its future", []call{thens(0, busy("C", awaits(0), peeks(0))), completes(0, 5, nil)}, "then0:ok C:5( await0:5 peek0:5 ) complete0:yes"},
			{"it asks its future, that has an error", []call{thens(0, busy("C", awaits(0), peeks(0))), completes(0, 5, io.EOF)}, "then0:ok C:EOF( await0:EOF peek0:EOF ) complete0:yes"},
			{"it fills its future", []call{thens(0, busy("C", claims(0), fills(0, 6, nil), completes(0, 7, io.EOF))), thens(0, a), completes(0, 5, nil), awaits(0)}, "then0:ok then0:ok C:5( claim0:no fill0:no complete0:no ) A:5( ) complete0:yes await0:5"},
			{"it waits for its future again: it is called at once, ahead of those that wait", []call{thens(0, busy("C", thens(0, busy("D", thens(0, b))))), thens(0, a), completes(0, 5, nil)}, "then0:ok then0:ok C:5( D:5( B:5( ) then0:ok ) then0:ok ) A:5( ) complete0:yes"},
			{"it maps its future", []call{thens(0, busy("C", alters(0, plus("M", 1)), awaits(2), alters(2, fails("N", io.EOF)), awaits(3))), completes(0, 5, nil)}, "then0:ok C:5( M:5 map0:#2 await2:6 N:6 map2:#3 await3:EOF ) complete0:yes"},
			{"it asks wrongly", []call{thens(0, busy("C", thens(0, nil), alters(0, nil), thens(-1, a), claims(-1), awaits(-1), peeks(-1))), completes(0, 5, nil)}, "then0:ok C:5( then0:ErrArg map0:ErrArg then-1:ErrNil claim-1:no await-1:errno:2 peek-1:none ) complete0:yes"},
			{"it fills another one", []call{thens(0, busy("C", completes(1, 6, nil), awaits(1))), thens(1, a), thens(0, b), completes(0, 5, nil), completes(1, 7, nil)}, "then0:ok then1:ok then0:ok C:5( A:6( ) complete1:yes await1:6 ) B:5( ) complete0:yes complete1:no"},
			{"it finds another one filled by then", []call{thens(0, busy("C", completes(1, 6, nil), peeks(1), thens(1, a))), completes(1, 7, nil), completes(0, 5, nil)}, "then0:ok complete1:yes C:5( complete1:no peek1:7 A:7( ) then1:ok ) complete0:yes"},
			{"it finds another one claimed by then", []call{thens(0, busy("C", claims(1), fills(1, 3, nil), completes(1, 6, nil), peeks(1), thens(1, a))), claims(1), completes(0, 5, nil), fills(1, 7, nil)}, "then0:ok claim1:yes C:5( claim1:no fill1:no complete1:no peek1:none then1:ok ) complete0:yes A:7( ) fill1:yes"},
			{"it claims another one, and fills it itself", []call{thens(0, busy("C", claims(1), fills(1, 6, nil))), completes(0, 5, nil), awaits(1)}, "then0:ok C:5( claim1:yes fill1:yes ) complete0:yes await1:6"},
			{"it finds no room", slices.Concat([]call{thens(0, busy("C", thens(1, a), alters(1, plus("M", 1))))}, slices.Repeat([]call{thens(1, b)}, 64), []call{completes(0, 5, nil)}), "then0:ok " + full + " C:5( then1:ErrFull map1:ErrFull ) complete0:yes"},
			{"one after another", []call{thens(0, busy("C", completes(1, 6, nil))), thens(1, busy("D", completes(0, 7, nil), peeks(0))), completes(1, 1, nil), completes(0, 5, nil)}, "then0:ok then1:ok D:1( C:7( complete1:no ) complete0:yes peek0:7 ) complete1:yes complete0:no"},
			{"it is there twice", []call{thens(0, a), thens(0, b), thens(0, a), completes(0, 5, nil), thens(0, a)}, "then0:ok then0:ok then0:ok A:5( ) B:5( ) A:5( ) complete0:yes A:5( ) then0:ok"},
			{"it panics", []call{thens(0, a), thens(0, fallen("F", peeks(0))), thens(0, b), alters(0, plus("M", 1)), completes(0, 5, nil), completes(0, 6, nil), thens(0, b), awaits(0), peeks(2)}, "then0:ok then0:ok then0:ok map0:#2 A:5( ) F:5( peek0:5 complete0:fell:F complete0:no B:5( ) then0:ok await0:5 peek2:none"},
			{"it panics out of a Fill", []call{claims(0), thens(0, fallen("F")), thens(0, b), fills(0, 5, io.EOF), fills(0, 6, nil), peeks(0)}, "claim0:yes then0:ok then0:ok F:EOF( fill0:fell:F fill0:no peek0:EOF"},
			{"it panics where it is called at once", []call{completes(0, 5, nil), thens(0, fallen("F")), thens(0, b)}, "complete0:yes F:5( then0:fell:F B:5( ) then0:ok"},
			{"it panics within another one", []call{thens(0, busy("C", completes(1, 6, nil), peeks(1))), thens(1, fallen("F")), thens(1, b), thens(0, a), completes(0, 5, nil)}, "then0:ok then1:ok then1:ok then0:ok C:5( F:6( complete1:fell:F peek1:6 ) A:5( ) complete0:yes"},
			{"it panics behind a Map", []call{alters(0, plus("M", 1)), thens(2, fallen("F")), thens(2, b), thens(0, a), completes(0, 5, nil), peeks(0), peeks(2), thens(2, b)}, "map0:#2 then2:ok then2:ok then0:ok M:5 F:6( complete0:fell:F peek0:5 peek2:6 B:6( ) then2:ok"},
			{"Maps of Maps", []call{alters(0, plus("M", 1)), alters(2, plus("N", 10)), alters(2, fails("O", io.EOF)), alters(4, plus("never", 1)), alters(2, fallen("P")), alters(6, plus("never", 1)), completes(0, 5, nil), awaits(2), awaits(3), awaits(4), awaits(5), awaits(6), awaits(7)}, "map0:#2 map2:#3 map2:#4 map4:#5 map2:#6 map6:#7 M:5 N:6 O:6 P:6 complete0:yes await2:6 await3:16 await4:EOF await5:EOF await6:panicked:P await7:panicked:P"},
			{"Maps of what somebody else fills", []call{alters(0, plus("M", 1)), alters(2, plus("N", 1)), claims(2), completes(0, 5, nil), peeks(2), fills(2, 9, nil), awaits(3)}, "map0:#2 map2:#3 claim2:yes M:5 complete0:yes peek2:none N:9 fill2:yes await3:10"},
			{"a Map of what has an error, and somebody else fills it", []call{alters(0, plus("never", 1)), completes(2, 9, nil), completes(0, 5, io.EOF), awaits(2)}, "map0:#2 complete2:yes complete0:yes await2:9"},
		} {
			w := ours(2)
			w.awake = true
			if got := w.makes(th, row.calls...); got != row.want || len(w.follows(true)) != 0 {
				t.Errorf("P14.2 to P14.7: %s, by %s: %v:\n got %s\nwant %s: %v", row.what, who, row.calls, got, row.want, w.follows(true))
			}
		}
	})
}

// TestItsOwnPromise: a function that fills by the promise by which its future is being filled is refused, and changes nothing.
func TestItsOwnPromise(t *testing.T) {
	by(t, func(who string, th *gate.Thread) {
		x, called := future.New(), 0
		p := x.Claim(th)
		for _, falls := range []bool{false, true, false} {
			x.Then(th, func(u *gate.Thread, v int64, e error) {
				called++
				if p.Fill(u, 9, nil) || p.Fill(u, 0, io.EOF) || v != 5 || e != nil {
					t.Errorf("P14.2: by %s: %d %v", who, v, e)
				}
				if falls {
					panic("x")
				}
			})
		}
		out := aid.Caught(func() { p.Fill(th, 5, nil) })
		again := p.Fill(th, 6, nil)
		if v, e, done := x.Peek(th); out != "x" || again || called != 2 || v != 5 || e != nil || !done {
			t.Errorf("P14.2: by %s: %v comes out; again: %v; %d are called; %d %v %v", who, out, again, called, v, e, done)
		}
	})
}

// TestWhatComesOut: a function's own panic, with the same value, out of the Fill, the Complete or the Then that calls it, and out of that of a future which a Map stands behind; nothing behind it is done.
func TestWhatComesOut(t *testing.T) {
	for what, x := range map[string]any{"number": 3, "text": "x", "error": io.EOF, "pointer": new(int), "false": false, "errno": api.ErrFull, "array": [2]int{1, 2}} {
		comesOut(t, what, func() { panic(x) }, func(out any) bool { return out == x })
	}
	list := []int{1, 2}
	comesOut(t, "what cannot be compared", func() { panic(list) }, func(out any) bool { return &out.([]int)[0] == &list[0] })
	comesOut(t, "nil", func() { panic(nil) }, func(out any) bool {
		var none *runtime.PanicNilError
		return errors.As(out.(error), &none)
	})
	comesOut(t, "an index", func() { _ = list[len(list)] }, func(out any) bool {
		var at runtime.Error
		return errors.As(out.(error), &at)
	})
	_, own := aid.Stopped()
	comesOut(t, "the gate's own, of another thread", func() { panic(own) }, gate.Is)
	comesOut(t, "another one ahead of it", func() {
		defer panic("x")
		panic("y")
	}, func(out any) bool { return out == "x" })
}

func comesOut(t *testing.T, what string, falls func(), fits func(out any) bool) {
	t.Helper()
	by(t, func(who string, th *gate.Thread) {
		for behind := range 3 { // so many Maps
			for _, e := range []error{nil, io.EOF} {
				x, called := future.New(), 0
				g := x
				for range behind {
					g, _ = g.Map(th, func(v int64) (int64, error) { return v, nil })
				}
				counts := func(*gate.Thread, int64, error) { called++ }
				f := func(*gate.Thread, int64, error) { falls() }
				g.Then(th, counts)
				g.Then(th, f)
				g.Then(th, counts)
				never, _ := g.Map(th, func(v int64) (int64, error) { return v, nil })
				x.Then(th, counts)
				p := x.Claim(th)
				out := aid.Caught(func() { p.Fill(th, 5, e) })
				_, is, done := g.Peek(th)
				if _, _, early := never.Peek(th); !fits(out) || called != 1 || is != e || !done || early || p.Fill(th, 6, nil) || x.Complete(th, 6, nil) {
					t.Errorf("P14.2: %s, by %s, behind %d Maps: %v comes out; %d are called; %v %v", what, who, behind, out, called, is, done)
				}
				out = aid.Caught(func() { g.Then(th, f) })
				if is := g.Then(th, counts); !fits(out) || is != api.OK || called != 2 {
					t.Errorf("P14.4: %s, by %s, behind %d Maps: %v comes out; then %d", what, who, behind, out, is)
				}
			}
		}
		x := future.New()
		x.Then(th, func(*gate.Thread, int64, error) { falls() })
		if out := aid.Caught(func() { x.Complete(th, 5, nil) }); !fits(out) || x.Complete(th, 6, nil) {
			t.Errorf("P14.3: %s, by %s: %v comes out", what, who, out)
		}
	})
	x := future.New()
	f := func(*gate.Thread, int64, error) { falls() }
	x.Then(nil, f)
	r := gate.Run(nil, 99, func(th *gate.Thread) { x.Complete(th, 4, nil) }, func(th *gate.Thread) { x.Await(th); x.Then(th, f) })
	if r.End != api.Over || !slices.Equal(r.Fell, []int{0}) && !slices.Equal(r.Fell, []int{0, 1}) {
		t.Errorf("P14.2, P14.4: %s: not recovered: %+v", what, r)
	}
}

// TestExits: a function that ends its goroutine does not come back, either; nor does that of a Map, whose future nobody fills then.
func TestExits(t *testing.T) {
	exits := func(*gate.Thread, int64, error) { runtime.Goexit() }
	ends := func(what string, f func()) {
		aid.Beside(1, func(int) {
			f()
			t.Errorf("%s: it comes back", what)
		})
	}
	w := ours(1)
	x, y := w.all[0], future.New()
	x.Then(nil, exits)
	w.makes(nil, thens(0, quiet("A")))
	g, _ := y.Map(nil, func(int64) (int64, error) { runtime.Goexit(); return 5, nil })
	ends("P14.3", func() { x.Complete(nil, 3, nil) })
	ends("P14.4", func() { x.Then(nil, exits) })
	ends("P14.7", func() { y.Complete(nil, 3, nil) })
	if got, want := w.makes(nil, peeks(0), completes(0, 4, nil), thens(0, quiet("B"))), "peek0:3 complete0:no B:3( ) then0:ok"; got != want {
		t.Errorf("P14.2: %s, not %s", got, want)
	}
	if v, e, done := g.Peek(nil); done || !g.Complete(nil, 6, nil) || y.Complete(nil, 6, nil) {
		t.Errorf("P14.7: %d %v %v", v, e, done)
	}
}

// TestStoppedInItsMidst: a function whose thread is stopped, whatever it does about that: nothing that stands behind it is done, and what comes out of it comes out of the call.
func TestStoppedInItsMidst(t *testing.T) {
	x := cell.New(0)
	adds := func(t *gate.Thread) { x.Add(t, 1) }
	recovers := func(t *gate.Thread) { _ = aid.Caught(func() { adds(t) }) }
	for what, row := range map[string]struct {
		f     func(t *gate.Thread)
		fits  func(out any) bool
		whole bool // it comes back
	}{
		"goes on":                        {adds, gate.Is, false},
		"recovers, and comes back":       {recovers, func(out any) bool { return out == nil }, true},
		"recovers, and accesses more":    {func(t *gate.Thread) { recovers(t); adds(t) }, gate.Is, false},
		"recovers, and panics":           {func(t *gate.Thread) { recovers(t); panic("x") }, func(out any) bool { return out == "x" }, false},
		"recovers, and panics with it":   {func(t *gate.Thread) { defer func() { panic(recover()) }(); adds(t) }, gate.Is, false},
		"defers an access":               {func(t *gate.Thread) { defer adds(t); adds(t) }, gate.Is, false},
		"panics, and accesses meanwhile": {func(t *gate.Thread) { defer adds(t); panic("x") }, gate.Is, false},
	} {
		y, called := future.New(), 0
		y.Then(nil, func(t *gate.Thread, _ int64, _ error) { row.f(t) })
		y.Then(nil, func(*gate.Thread, int64, error) { called++ })
		var out any
		r := gate.Run(nil, 3, func(t *gate.Thread) { out = aid.Caught(func() { y.Complete(t, 5, nil) }) })
		want := map[bool]int{true: 1}[row.whole]
		if !row.fits(out) || r.End != api.Cut || called != want || aid.Texts(r.Log) != "0 cas c0 0 1: 0 ok; 0 store c0 2: 1; 0 swap c1 -1: 2" || aid.Texts(r.Left) != "0 add c-1 1: 0" {
			t.Errorf("P14.2: %s: %v comes out; %d are called: %+v", what, out, called, r)
		}
		y.Then(nil, func(*gate.Thread, int64, error) { called++ })
		if v, e := y.Await(nil); v != 5 || e != nil || y.Complete(nil, 6, nil) || called != want+1 {
			t.Errorf("P14.2: %s: then %d %v; %d are called", what, v, e, called)
		}
		r = gate.Run(nil, 1, func(t *gate.Thread) {
			out = aid.Caught(func() { y.Then(t, func(t *gate.Thread, _ int64, _ error) { row.f(t) }) })
		})
		if !row.fits(out) || r.End != api.Cut || aid.Texts(r.Left) != "0 add c-1 1: 0" || x.Load(nil) != 0 {
			t.Errorf("P14.4: %s: %v comes out: %+v", what, out, r)
		}
		stoppedMap(t, what, row.f)
	}
}

// stoppedMap: a function of a Map whose thread is stopped. The gate's own panic is never carried; and if the function comes back, or panics, its future is filled at an access that is stopped, too.
func stoppedMap(t *testing.T, what string, f func(t *gate.Thread)) {
	t.Helper()
	for log, filled := range map[string]bool{"0 cas c0 0 1: 0 ok; 0 store c0 2: 1; 0 swap c1 -1: 1": false, "0 load c0: -1": true} {
		var g *future.Future
		var thread *gate.Thread
		x := future.New()
		maps := func(by *gate.Thread) {
			g, _ = x.Map(by, func(v int64) (int64, error) { f(thread); return v, nil })
		}
		does := func() { maps(thread) }
		if filled {
			x.Complete(nil, 5, nil)
		} else {
			maps(nil)
			does = func() { x.Complete(thread, 5, nil) }
		}
		var out any
		r := gate.Run(nil, 1+strings.Count(log, ";"), func(th *gate.Thread) {
			thread = th
			out = aid.Caught(does)
		})
		if v, e, done := x.Peek(nil); !gate.Is(out) || aid.Texts(r.Log) != log || r.End != api.Cut || v != 5 || e != nil || !done {
			t.Errorf("P14.7: %s: %v comes out; %d %v %v: %+v", what, out, v, e, done, r)
		}
		if filled && g != nil {
			t.Errorf("P14.7: %s: it answers", what)
		}
		if v, e, done := g.Peek(nil); v != 0 || e != nil || done || (g.Claim(nil) == nil) != filled {
			t.Errorf("P14.7: %s: its future: %d %v %v", what, v, e, done)
		}
	}
}

// TestItIsHandedTheThread: just the one that the Fill, or the Then, was handed, and its accesses are that thread's.
func TestItIsHandedTheThread(t *testing.T) {
	for what, th := range aid.NotLiving() {
		x, called := future.New(), 0
		is := func(u *gate.Thread, v int64, e error) {
			if called++; u != th || v != 0 || e != io.EOF {
				t.Errorf("P14.2, P14.4: %s: it is handed another, or %d %v", what, v, e)
			}
		}
		x.Then(nil, is)
		g, _ := x.Map(nil, func(int64) (int64, error) { return 5, nil })
		g.Then(nil, is)
		x.Complete(th, 8, io.EOF)
		if x.Then(th, is); called != 3 {
			t.Errorf("P14.2, P14.4: %s: %d are called", what, called)
		}
	}
	x, c := future.New(), cell.New(0)
	f := func(u *gate.Thread, v int64, _ error) {
		c.Add(u, v)
		u.Mark(v, 10)
	}
	r := gate.Run(aid.Goes([2]int{0, 4}, [2]int{1, 9}), api.MaxTurns, func(th *gate.Thread) {
		x.Then(th, f)
		th.Mark(0, 11)
		x.Then(th, f)
	}, func(th *gate.Thread) { x.Complete(th, 8, nil) })
	want := "0 load c0: 0; 0 add c1 1: 0; 0 cas c0 0 1: 0 ok; 0 mark 0 11; 0 load c0: 1; 1 cas c2 0 1: 0 ok; 1 store c2 2: 1; 1 swap c0 -1: 1; 1 add c3 8: 0; 1 mark 8 10; 0 add c1 1: 1; 0 cas c0 1 2: -1 no; 0 load c0: -1; 0 add c3 8: 8; 0 mark 8 10"
	if aid.Texts(r.Log) != want || r.End != api.Over {
		t.Errorf("P14.2, P14.4: %s\nnot %s", aid.Texts(r.Log), want)
	}
}

// TestItBeginsThreads: a function may begin a thread, which finds the future filled; it sleeps for another one.
func TestItBeginsThreads(t *testing.T) {
	w := ours(2)
	got := ""
	w.all[0].Then(nil, func(t *gate.Thread, _ int64, _ error) {
		t.Go(func(t *gate.Thread) {
			got = w.makes(t, awaits(1), peeks(0), awaits(0), thens(0, quiet("A")), claims(0), completes(0, 4, nil))
		})
	})
	w.makes(nil, thens(0, quiet("B")))
	r := gate.Run([]int{0, 0, 0, 0, 1}, api.MaxTurns, func(t *gate.Thread) { w.makes(t, completes(0, 2, nil), completes(1, 3, nil)) })
	if want := "B:2( ) complete0:yes await1:3 complete1:yes peek0:2 await0:2 A:2( ) then0:ok claim0:no complete0:no"; got != want || r.End != api.Over {
		t.Errorf("P14.2: %s, not %s: %+v", got, want, r)
	}
}

// value: one that holds memory.
type value [100]int

func isKept[T any](p weak.Pointer[T]) bool {
	for range 9 {
		runtime.GC()
	}
	return p.Value() != nil
}

// TestNoFunctionIsKept: one that nobody will call any more is not kept by its future; a Map's as little.
func TestNoFunctionIsKept(t *testing.T) {
	nothing := func(*future.Future) {}
	completes := func(x *future.Future) { _ = aid.Caught(func() { x.Complete(nil, 3, nil) }) }
	upTo := func(turns int) func(x *future.Future) {
		return func(x *future.Future) { gate.Run(nil, turns, func(t *gate.Thread) { x.Complete(t, 3, nil) }) }
	}
	falls := func(x *future.Future) { x.Then(nil, func(*gate.Thread, int64, error) { panic("x") }) }
	fills := func(x *future.Future) {
		for range 64 {
			x.Then(nil, func(*gate.Thread, int64, error) {})
		}
	}
	for what, row := range map[string]struct {
		first func(x *future.Future) // ahead of it
		turns int                    // of the thread that hands it in
		then  func(x *future.Future)
		kept  bool
	}{
		"handed in":                        {nothing, 9, nothing, true},
		"claimed":                          {nothing, 9, func(x *future.Future) { x.Claim(nil) }, true},
		"a Complete is stopped at its Cas": {nothing, 9, upTo(0), true},
		"stopped at its Store":             {nothing, 9, upTo(1), true},
		"stopped at the closing":           {nothing, 9, upTo(2), true},
		"called, by a thread":              {nothing, 9, upTo(3), false},
		"called":                           {nothing, 9, completes, false},
		"with an error":                    {nothing, 9, func(x *future.Future) { x.Complete(nil, 0, io.EOF) }, false},
		"behind one that fell":             {falls, 9, completes, false},
		"called at once":                   {completes, 9, nothing, false},
		"refused":                          {fills, 9, nothing, false},
		"stopped ahead of a place":         {nothing, 1, nothing, false},
		"stopped with a place":             {nothing, 2, nothing, false},
	} {
		for who, hands := range map[string]func(x *future.Future, t *gate.Thread, v *value){
			"Then": func(x *future.Future, t *gate.Thread, v *value) {
				x.Then(t, func(*gate.Thread, int64, error) { v[0]++ })
			},
			"Map": func(x *future.Future, t *gate.Thread, v *value) {
				x.Map(t, func(w int64) (int64, error) { return w + int64(v[0]), nil })
			},
		} {
			made := func() (*future.Future, weak.Pointer[value]) {
				v, x := new(value), future.New()
				row.first(x)
				gate.Run(nil, row.turns, func(t *gate.Thread) { hands(x, t, v) })
				row.then(x)
				return x, weak.Make(v)
			}
			x, v := made()
			if kept := isKept(v); kept != row.kept {
				t.Errorf("what is kept: %s, %s: the function: %v", who, what, kept)
			}
			runtime.KeepAlive(x)
		}
	}
}

// TestPromisesKeepNothing: a promise by which a future is filled keeps it no longer; and a Map's future not the one that it is made from.
func TestPromisesKeepNothing(t *testing.T) {
	made := func(fills bool) (*future.Promise, *future.Future, weak.Pointer[future.Future]) {
		x := future.New()
		p := x.Claim(nil)
		g, _ := x.Map(nil, func(v int64) (int64, error) { return v, nil })
		if fills {
			p.Fill(nil, 4, nil)
		}
		return p, g, weak.Make(x)
	}
	for _, fills := range []bool{false, true} {
		p, g, x := made(fills)
		if kept := isKept(x); kept == fills {
			t.Errorf("what is kept: filled: %v: the future: %v", fills, kept)
		}
		if p.Fill(nil, 5, nil) == fills {
			t.Errorf("P14.2: filled: %v: again", fills)
		}
		if a := aid.Told(g.Await(nil)); a.String() != map[bool]string{false: "5", true: "4"}[fills] {
			t.Errorf("P14.7: filled: %v: %v", fills, a)
		}
	}
}
