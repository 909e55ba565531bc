package limit_test

import (
	"errors"
	"io"
	"runtime"
	"strconv"
	"strings"
	"testing"

	"treadle/aid"
	"treadle/api"
	"treadle/cell"
	"treadle/clock"
	"treadle/fault"
	"treadle/future"
	"treadle/gate"
	"treadle/limit"
	"treadle/token"
)

// What is done when something comes in time, or is late: by whoever fills it, cancels it, or lets time pass.

// TestDeeds: what functions do, by each thread that does not live, and by one that does.
func TestDeeds(t *testing.T) {
	by(t, func(who string, th *gate.Thread) {
		for _, row := range []struct {
			what  string
			calls []call
			want  string
		}{
			{"it asks what it waits for", []call{withins(0, 0, 3), thens(1, busy("A", peeks(0), peeks(1), nows(0))), completes(0, 5, nil)}, "within(0,0,3):#1 then1:ok A:5( peek0:5 peek1:5 now0:0 ) complete0:yes"},
			{"it is late, and asks what it waits for", []call{withins(0, 0, 3), thens(1, busy("A", peeks(0), awaits(1), nows(0))), advances(0, 4), completes(0, 5, nil)}, "within(0,0,3):#1 then1:ok A:late_3( peek0:none await1:late_3 now0:4 ) advance0(4):1 complete0:yes"},
			{"it is late, and completes what it waits for", []call{withins(0, 0, 3), thens(1, busy("A", completes(0, 5, nil))), advances(0, 3), awaits(0), awaits(1)}, "within(0,0,3):#1 then1:ok A:late_3( complete0:yes ) advance0(3):1 await0:5 await1:late_3"},
			{"ahead of its timer's end, time passes: it has not been stopped by then", []call{withins(0, 0, 3), thens(1, busy("A", advances(0, 3))), completes(0, 5, nil), advances(0, 3), awaits(1)}, "within(0,0,3):#1 then1:ok A:5( advance0(3):1 ) complete0:yes advance0(3):0 await1:5"},
			{"it waits anew, in the Advance in which it was late: that rings in the same one", []call{withins(0, 0, 3), thens(1, busy("A", withins(0, 0, 0), withins(0, 0, 1))), advances(0, 4), awaits(2), peeks(3), completes(0, 5, nil), awaits(3)}, "within(0,0,3):#1 then1:ok A:late_3( within(0,0,0):#2 within(0,0,1):#3 ) advance0(4):2 await2:late_4 peek3:none complete0:yes await3:5"},
			{"it advances, when it is late", []call{withins(0, 0, 3), thens(1, busy("A", advances(0, 1))), advances(0, 3)}, "within(0,0,3):#1 then1:ok A:late_3( advance0(1):ErrBusy ) advance0(3):1"},
			{"one is late, and completes what another waits for", []call{withins(0, 0, 3), withins(0, 0, 4), thens(1, busy("A", completes(0, 5, nil), peeks(2))), advances(0, 9), awaits(2)}, "within(0,0,3):#1 within(0,0,4):#2 then1:ok A:late_3( complete0:yes peek2:5 ) advance0(9):1 await2:5"},
			{"its own waits for it", []call{withins(0, 0, 3), withins(0, 1, 2), thens(2, busy("A", peeks(1))), advances(0, 2), completes(0, 5, nil), awaits(1), advances(0, 9)}, "within(0,0,3):#1 within(0,1,2):#2 then2:ok A:late_2( peek1:none ) advance0(2):1 complete0:yes await1:5 advance0(9):0"},
			{"it is told that another one was late", []call{withins(0, 0, 2), withins(0, 1, 3), advances(0, 2), awaits(2), advances(0, 9)}, "within(0,0,2):#1 within(0,1,3):#2 advance0(2):1 await2:late_2 advance0(9):0"},
			{"two are due at one time: the first one set rings, and stops the other", []call{withins(0, 0, 3), withins(0, 1, 3), advances(0, 9), awaits(2)}, "within(0,0,3):#1 within(0,1,3):#2 advance0(9):1 await2:late_3"},
			{"somebody else completes it, and its timer rings in vain", []call{withins(0, 0, 3), completes(1, 7, nil), completes(0, 5, nil), advances(0, 9), awaits(1)}, "within(0,0,3):#1 complete1:yes complete0:yes advance0(9):1 await1:7"},
			{"somebody else claims it, and it is not filled", []call{withins(0, 0, 3), claims(1), advances(0, 9), completes(0, 5, nil), peeks(1)}, "within(0,0,3):#1 claim1:yes advance0(9):1 complete0:yes peek1:none"},
			{"it panics: it is filled, and its timer goes on", []call{withins(0, 0, 3), thens(1, fallen("A")), thens(1, quiet("never")), completes(0, 5, nil), awaits(1), advances(0, 3), advances(0, 3)}, "within(0,0,3):#1 then1:ok then1:ok A:5( complete0:fell:A await1:5 advance0(3):1 advance0(3):0"},
			{"it panics, when it is late: the clock stays busy", []call{withins(0, 0, 3), withins(0, 0, 4), thens(1, fallen("A")), thens(1, quiet("never")), advances(0, 9), awaits(1), nows(0), advances(0, 1), completes(0, 5, nil), awaits(2)}, "within(0,0,3):#1 within(0,0,4):#2 then1:ok then1:ok A:late_3( advance0(9):fell:A await1:late_3 now0:9 advance0(1):ErrBusy complete0:yes await2:5"},
			{"it panics in the midst of making it, as what it waits for is filled", []call{completes(0, 5, nil), withins(0, 0, 3), thens(1, fallen("A")), awaits(1)}, "complete0:yes within(0,0,3):#1 A:5( then1:fell:A await1:5"},
			{"a function ahead of it panics: it waits on, and is late", []call{thens(0, fallen("A")), withins(0, 0, 3), completes(0, 5, nil), peeks(1), advances(0, 3), awaits(1)}, "then0:ok within(0,0,3):#1 A:5( complete0:fell:A peek1:none advance0(3):1 await1:late_3"},

			{"it asks the reasons", []call{deadlines(0, 0, 3), onCancels(1, busy("A", reasons(0), reasons(1), nows(0))), cancels(0, 7)}, "deadline(0,0,3):#1 onCancel1:ok A:7( reason0:7 reason1:7 now0:0 ) cancel0(7):yes"},
			{"its time is over, and it asks the reasons", []call{deadlines(0, 0, 3), onCancels(1, busy("A", reasons(0), waits(1), nows(0))), advances(0, 4)}, "deadline(0,0,3):#1 onCancel1:ok A:1( reason0:0 wait1:1 now0:4 ) advance0(4):1"},
			{"its timer is stopped ahead of what its functions do", []call{deadlines(0, 0, 3), onCancels(1, busy("A", advances(0, 3))), cancels(1, 7), advances(0, 3), reasons(1)}, "deadline(0,0,3):#1 onCancel1:ok A:7( advance0(3):0 ) cancel1(7):yes advance0(3):0 reason1:7"},
			{"its time is over, and it cancels the one above", []call{deadlines(0, 0, 3), deadlines(0, 0, 4), onCancels(1, busy("A", cancels(0, 7), cancels(1, 8))), advances(0, 9), reasons(1), reasons(2)}, "deadline(0,0,3):#1 deadline(0,0,4):#2 onCancel1:ok A:1( cancel0(7):yes cancel1(8):no ) advance0(9):1 reason1:1 reason2:7"},
			{"its time is over, and it makes others", []call{deadlines(0, 0, 3), onCancels(1, busy("A", deadlines(0, 0, 0), deadlines(0, 1, 2), deadlines(0, 0, 1))), advances(0, 3), reasons(2), reasons(3), reasons(4), advances(0, 9), reasons(4)}, "deadline(0,0,3):#1 onCancel1:ok A:1( deadline(0,0,0):#2 deadline(0,1,2):#3 deadline(0,0,1):#4 ) advance0(3):2 reason2:1 reason3:1 reason4:0 advance0(9):1 reason4:1"},
			{"one above it is late: it has that reason, and its timer is stopped", []call{deadlines(0, 0, 3), deadlines(0, 1, 4), onCancels(2, quiet("A")), advances(0, 9), advances(0, 9)}, "deadline(0,0,3):#1 deadline(0,1,4):#2 onCancel2:ok A:1( ) advance0(9):1 advance0(9):0"},
			{"one below it is late: that alone", []call{deadlines(0, 0, 4), deadlines(0, 1, 3), advances(0, 3), reasons(1), reasons(2), advances(0, 3), reasons(1), reasons(0)}, "deadline(0,0,4):#1 deadline(0,1,3):#2 advance0(3):1 reason1:0 reason2:1 advance0(3):1 reason1:1 reason0:0"},
			{"one that is cancelled is made, and its time is over at once", []call{cancels(0, 7), deadlines(0, 0, 0), advances(0, 9), reasons(1)}, "cancel0(7):yes deadline(0,0,0):#1 advance0(9):0 reason1:7"},
			{"its time is over at once, but nobody lets time pass", []call{deadlines(0, 0, 0), reasons(1), cancels(1, 4), advances(0, 0), reasons(1)}, "deadline(0,0,0):#1 reason1:0 cancel1(4):yes advance0(0):0 reason1:4"},
			{"it panics: its timer is stopped, and it has its reason", []call{deadlines(0, 0, 3), onCancels(1, fallen("A")), onCancels(1, quiet("never")), cancels(0, 7), reasons(1), advances(0, 3)}, "deadline(0,0,3):#1 onCancel1:ok onCancel1:ok A:7( cancel0(7):fell:A reason1:7 advance0(3):0"},
			{"it panics, when its time is over: the clock stays busy", []call{deadlines(0, 0, 3), deadlines(0, 0, 4), onCancels(1, fallen("A")), advances(0, 9), reasons(1), reasons(2), advances(0, 1), cancels(0, 7), reasons(2)}, "deadline(0,0,3):#1 deadline(0,0,4):#2 onCancel1:ok A:1( advance0(9):fell:A reason1:1 reason2:0 advance0(1):ErrBusy cancel0(7):yes reason2:7"},
			{"a function of the one above panics ahead of it: it lives on, and is late", []call{onCancels(0, fallen("A")), deadlines(0, 0, 3), cancels(0, 7), reasons(1), advances(0, 3), reasons(1)}, "onCancel0:ok deadline(0,0,3):#1 A:7( cancel0(7):fell:A reason1:0 advance0(3):1 reason1:1"},
			{"a token's time is over, and what waits is filled with that", []call{deadlines(0, 0, 3), withins(0, 0, 5), onCancels(1, busy("A", completes(0, 0, io.EOF))), advances(0, 9), awaits(1)}, "deadline(0,0,3):#1 within(0,0,5):#1 onCancel1:ok A:1( complete0:yes ) advance0(9):1 await1:EOF"},
		} {
			w := newWorld(made, usual)
			w.awake = true
			if got := w.makes(th, row.calls...); got != row.want || len(w.follows(true)) != 0 {
				t.Errorf("P17.1, P17.2: %s, by %s:\n got %s\nwant %s: %v", row.what, who, got, row.want, w.follows(true))
			}
		}
	})
}

// TestEndless: what is late makes anew what is due, again and again: an Advance ends all the same.
func TestEndless(t *testing.T) {
	by(t, func(who string, th *gate.Thread) {
		c, late, over := clock.New(), 0, 0
		var again func(u *gate.Thread, v int64, e error)
		again = func(u *gate.Thread, _ int64, _ error) {
			late++
			g, _ := limit.Within(u, c, future.New(), 0)
			g.Then(u, again)
		}
		again(th, 0, nil)
		var anew func(u *gate.Thread, r int64)
		anew = func(u *gate.Thread, _ int64) {
			over++
			x, _ := limit.Deadline(u, c, token.New(), 1)
			x.OnCancel(u, anew)
		}
		anew(th, 0)
		for n := range 3 {
			if rang, e := c.Advance(th, 0); rang != 64 || e != api.OK || late != 1+64*(n+1) || over != 1 {
				t.Errorf("R1: by %s: %d ring: %d: %d are late, the time of %d is over", who, rang, e, late, over)
			}
		}
	})
}

// TestItIsHandedTheThread: just the one that lets it come, or lets time pass, and its accesses are that thread's.
func TestItIsHandedTheThread(t *testing.T) {
	for who, th := range aid.NotLiving() {
		for what, does := range map[string]func(c *clock.Clock, f *future.Future, k *token.Token){
			"it comes":   func(_ *clock.Clock, f *future.Future, k *token.Token) { f.Complete(th, 5, nil); k.Cancel(th, 7) },
			"it is late": func(c *clock.Clock, _ *future.Future, _ *token.Token) { c.Advance(th, 9) },
		} {
			c, f, k, called := clock.New(), future.New(), token.New(), 0
			g, _ := limit.Within(nil, c, f, 3)
			x, _ := limit.Deadline(nil, c, k, 4)
			handed := func(u *gate.Thread) {
				if called++; u != th {
					t.Errorf("%s, by %s: it is handed another", what, who)
				}
			}
			g.Then(nil, func(u *gate.Thread, _ int64, _ error) { handed(u) })
			x.OnCancel(nil, func(u *gate.Thread, _ int64) { handed(u) })
			if does(c, f, k); called != 2 {
				t.Errorf("%s, by %s: %d are called", what, who, called)
			}
		}
	}
	a := cell.New(0)
	does := func(u *gate.Thread, n int64) {
		a.Add(u, 7)
		u.Mark(n, 10)
	}
	c, f, k := clock.New(), future.New(), token.New()
	g, _ := limit.Within(nil, c, f, 3)
	x, _ := limit.Deadline(nil, c, k, 4)
	g.Then(nil, func(u *gate.Thread, v int64, _ error) { does(u, v) })
	x.OnCancel(nil, func(u *gate.Thread, r int64) { does(u, r) })
	r := gate.Run([]int{1, 1, 1, 1, 1, 1}, 99, func(th *gate.Thread) { f.Complete(th, 5, nil) }, func(th *gate.Thread) { k.Cancel(th, 4) })
	want := joined("1 cas c0 0 4: 0 ok; 1 swap c1 -1: 1; 1 cas c2 0 4: 0 ok; 1 swap c3 -1: 2; 1 cas c4 2 4: 2 ok; 1 add c5 7: 0; 1 mark 4 10",
		"0 cas c6 0 1: 0 ok; 0 store c6 2: 1; 0 swap c7 -1: 1; 0 cas c8 0 1: 0 ok; 0 store c8 2: 1; 0 swap c9 -1: 1; 0 add c5 7: 7; 0 mark 5 10; 0 cas c10 2 4: 2 ok")
	if got := aid.Texts(r.Log); got != want || r.End != api.Over {
		t.Errorf("%s\nnot %s", got, want)
	}
}

// TestItBeginsThreads: a function may begin a thread, which sleeps till something else comes, or is late.
func TestItBeginsThreads(t *testing.T) {
	w := ours(plan{1, 2, 1}, withins(0, 0, 3), deadlines(0, 0, 4), withins(0, 1, 5))
	w.futures[2].Then(nil, func(t *gate.Thread, _ int64, _ error) {
		t.Go(func(t *gate.Thread) { w.makes(t, awaits(2), waits(1), awaits(3), reasons(0)) })
	})
	from := len(w.story)
	r := gate.Run(nil, api.MaxTurns, func(t *gate.Thread) { w.makes(t, advances(0, 3), advances(0, 1), advances(0, 1)) })
	var told aid.Story
	for _, x := range w.story[from:] {
		if x.Thread == 1 {
			told = append(told, x)
		}
	}
	if got, want := told.String(), "await2:late_3 wait1:1 await3:late_5 reason0:0"; got != want || r.End != api.Over || len(w.follows(true)) != 0 {
		t.Errorf("P17.1, P17.2: %s, not %s: %s", got, want, aid.Texts(r.Log))
	}
}

// TestWhatComesOut: a function's own panic, with the same value, out of what lets it come: the Complete, the Cancel, the Advance; nothing behind it is done.
func TestWhatComesOut(t *testing.T) {
	_, own := aid.Stopped()
	panics := aid.Falls()
	panics["the gate's own, of another thread"] = aid.Fall{Do: func() { panic(own) }, With: own}
	for what, row := range panics {
		by(t, func(who string, th *gate.Thread) {
			for n := range 4 {
				c, f, k, called := clock.New(), future.New(), token.New(), 0
				g, _ := limit.Within(th, c, f, 3)
				x, _ := limit.Deadline(th, c, k, 3)
				after := func() { called++ }
				g.Then(th, func(*gate.Thread, int64, error) { row.Do(); after() })
				g.Then(th, func(*gate.Thread, int64, error) { after() })
				x.OnCancel(th, func(*gate.Thread, int64) { row.Do(); after() })
				x.OnCancel(th, func(*gate.Thread, int64) { after() })
				out := aid.Caught(func() {
					switch n {
					case 0:
						f.Complete(th, 5, nil)
					case 1:
						k.Cancel(th, 7)
					case 2:
						x.Cancel(th, 7)
					default:
						c.Advance(th, 3) // the future's timer rings first
					}
				})
				_, _, done := g.Peek(th)
				_, busy := c.Advance(th, 0)
				if out == nil || row.With != nil && out != row.With || called != 0 || done != (n == 0 || n == 3) || x.Reason(th) != map[int]int64{1: 7, 2: 7}[n] || (busy == api.ErrBusy) != (n == 3) {
					t.Errorf("%s: %d, by %s: %v comes out; %d are called; %v %d %d", what, n, who, out, called, done, x.Reason(th), busy)
				}
				var none *runtime.PanicNilError
				if e, is := out.(error); what == "nil" && (!is || !errors.As(e, &none)) {
					t.Errorf("%d: nil, by %s: %v comes out", n, who, out)
				}
			}
		})
	}
}

// TestExits: a function that ends its goroutine does not come back, either: what stands behind it is not done.
func TestExits(t *testing.T) {
	for what, row := range map[string]struct {
		token bool
		does  func(c *clock.Clock, f *future.Future, k *token.Token)
		want  string // what it came to, or its reason; and how many timers ring then
	}{
		"it comes":                   {false, func(_ *clock.Clock, f *future.Future, _ *token.Token) { f.Complete(nil, 5, nil) }, "5, then 1 ok"}, // nobody has stopped its timer
		"it is late":                 {false, func(c *clock.Clock, _ *future.Future, _ *token.Token) { c.Advance(nil, 3) }, "late_3, then 0 ErrBusy"},
		"the one above is cancelled": {true, func(_ *clock.Clock, _ *future.Future, k *token.Token) { k.Cancel(nil, 7) }, "7, then 0 ok"},
		"its time is over":           {true, func(c *clock.Clock, _ *future.Future, _ *token.Token) { c.Advance(nil, 3) }, "1, then 0 ErrBusy"},
	} {
		c, f, k, called, got := clock.New(), future.New(), token.New(), 0, ""
		var g *future.Future
		var x *token.Token
		if row.token {
			x, _ = limit.Deadline(nil, c, k, 3)
		} else {
			g, _ = limit.Within(nil, c, f, 3)
		}
		g.Then(nil, func(*gate.Thread, int64, error) { runtime.Goexit() })
		g.Then(nil, func(*gate.Thread, int64, error) { called++ })
		x.OnCancel(nil, func(*gate.Thread, int64) { runtime.Goexit() })
		x.OnCancel(nil, func(*gate.Thread, int64) { called++ })
		aid.Beside(1, func(int) {
			row.does(c, f, k)
			t.Errorf("%s: it comes back", what)
		})
		if v, e, done := g.Peek(nil); done {
			got = aid.Told(v, e).String()
		}
		if row.token {
			got = strconv.FormatInt(x.Reason(nil), 10)
		}
		rang, e := c.Advance(nil, 9)
		if got += ", then " + strconv.Itoa(rang) + " " + named(e); got != row.want || called != 0 {
			t.Errorf("%s: %s, not %s; %d are called", what, got, row.want, called)
		}
	}
}

// TestStoppedInItsMidst: a function whose thread is stopped, whatever it does about that: what comes out of it comes out of what lets it come.
func TestStoppedInItsMidst(t *testing.T) {
	a := cell.New(0)
	for what, does := range aid.Midsts(func(t *gate.Thread) { a.Add(t, 1) }) {
		for n := range 3 {
			c, f, k, called := clock.New(), future.New(), token.New(), 0
			g, _ := limit.Within(nil, c, f, 3)
			x, _ := limit.Deadline(nil, c, k, 3)
			g.Then(nil, func(t *gate.Thread, _ int64, _ error) { does(t) })
			g.Then(nil, func(*gate.Thread, int64, error) { called++ })
			x.OnCancel(nil, func(t *gate.Thread, _ int64) { does(t) })
			x.OnCancel(nil, func(*gate.Thread, int64) { called++ })
			turns := []int{6, 5, 25}[n]
			var out any
			r := gate.Run(nil, turns, func(t *gate.Thread) {
				out = aid.Caught(func() {
					switch n {
					case 0:
						f.Complete(t, 5, nil)
					case 1:
						k.Cancel(t, 7)
					default:
						c.Advance(t, 3)
					}
				})
			})
			comes := what == "recovers, and answers"
			if called != aid.Digit(comes) || r.End != api.Cut || r.Turns != turns || !comes && out == nil || !strings.Contains(what, " panic") && (!comes || n != 1) && !gate.Is(out) {
				t.Errorf("%s: %d: %v comes out; %d are called: %+v", what, n, out, called, r)
			}
			if _, _, done := g.Peek(nil); done != (n != 1) || (x.Reason(nil) == 7) != (n == 1) || a.Load(nil) != 0 {
				t.Errorf("%s: %d: then %v %d", what, n, done, x.Reason(nil))
			}
		}
	}
}

// chain: a future, and so many others, each of which waits for the one ahead of it; the last clock is that of the last ones.
func chain(t *testing.T, parts int) (all []*future.Future, clocks []*clock.Clock) {
	t.Helper()
	all = []*future.Future{future.New()}
	for i := range parts {
		if i%api.MaxTimers == 0 {
			clocks = append(clocks, clock.New())
		}
		g, e := limit.Within(nil, clocks[len(clocks)-1], all[i], int64(i+1))
		if e != api.OK {
			t.Fatalf("R1: the part %d: %d", i, e)
		}
		all = append(all, g)
	}
	return all, clocks
}

// TestNested: futures that wait for one another, to the document's bound: what the first one comes to, or the first one that is late, is what all behind it come to, and each timer is stopped.
func TestNested(t *testing.T) {
	const parts = 1 << 16
	for _, late := range []bool{false, true} {
		for _, e := range []error{nil, io.EOF} {
			all, clocks := chain(t, parts)
			want := aid.Told(7, e)
			if late {
				if rang, _ := clocks[0].Advance(nil, 1); rang != 1 {
					t.Errorf("what follows: %d ring", rang)
				}
				want = aid.Told(all[1].Await(nil))
			}
			all[0].Complete(nil, 7, e)
			if e != nil && !late {
				want = aid.Told(0, e)
			}
			for i, g := range all[1:] {
				if a := aid.Told(g.Await(nil)); a != want {
					t.Fatalf("what follows: the part %d: %v, not %v", i, a, want)
				}
			}
			for i, c := range clocks {
				if rang, e := c.Advance(nil, 1<<40); rang != 0 || e != api.OK {
					t.Fatalf("what follows: of the clock %d %d ring: %d", i, rang, e)
				}
			}
			if _, is := want.E.(*fault.Late); is != late {
				t.Errorf("P17.1: %v", want)
			}
		}
	}
	all, _ := chain(t, parts)
	all[parts].Then(nil, func(*gate.Thread, int64, error) { panic("x") })
	if out := aid.Caught(func() { all[0].Complete(nil, 7, nil) }); out != "x" {
		t.Errorf("R1: %v comes out", out)
	}
}

// TestNestedStopped: where the thread is stopped in the midst of futures in one another, those are filled that it came to, and no timer is stopped but by those that came back.
func TestNestedStopped(t *testing.T) {
	for _, row := range [][3]int{{16, 0, 0}, {16, 1, 0}, {16, 2, 1}, {16, 4, 1}, {16, 5, 2}, {16, 49, 16}, {16, 50, 17}, {16, 51, 17}, {16, 52, 17}, {16, 66, 17}, {1 << 14, 3 << 14, 1 << 14}} {
		all, clocks := chain(t, row[0])
		var out any
		r := gate.Run(nil, row[1], func(t *gate.Thread) { out = aid.Caught(func() { all[0].Complete(t, 5, nil) }) })
		filled, rang := 0, 0
		for _, x := range all {
			_, _, done := x.Peek(nil)
			filled += aid.Digit(done)
		}
		for _, c := range clocks {
			n, _ := c.Advance(nil, 1<<40)
			rang += n
		}
		stopped := max(0, row[1]-3*(row[0]+1))
		if !gate.Is(out) || filled != row[2] || r.Turns != row[1] || rang > row[0]-stopped {
			t.Errorf("R1: %v: %v comes out; %d are filled; %d ring", row, out, filled, rang)
		}
	}
}
