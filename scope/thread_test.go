package scope_test

import (
	"math/rand"
	"slices"
	"strconv"
	"testing"

	"treadle/aid"
	"treadle/api"
	"treadle/gate"
)

// TestAmongOthers: threads that meet in the midst of their calls; their accesses are those of the words.
func TestAmongOthers(t *testing.T) {
	type goes = [2]int
	const rest = 99
	own := ofScope
	for _, m := range []struct {
		what  string
		first []call
		calls [][]call
		picks []int
		told  string // in the order of the run, whoever it is
		left  string // who sleeps for good
		then  string // what the scopes come to
	}{
		{"it is closed between a Go's look and its claim", usual(), [][]call{{begins(0, fine("a"))}, {closes(0)}}, aid.Goes(goes{0, 1}, goes{1, 2}), "close0:yes go0:ErrClosed", "", "0 0"},
		{"it is waited for between a Go's look and its claim", usual(), [][]call{{begins(0, fine("a"))}, {waits(0)}}, aid.Goes(goes{0, 1}, goes{1, 4}), "wait0:0 go0:ErrClosed", "", "0 0"},
		{"it is closed between a Go's claim and its number", usual(), [][]call{{begins(0, fine("a"))}, {closes(0)}}, aid.Goes(goes{0, 2}, goes{1, 2}), "close0:yes a( )a go0:1", "", "0 0"},
		{"a Go comes between a Go's look and its claim: it looks again", usual(), [][]call{{begins(0, fine("a"))}, {begins(0, fine("b"))}}, aid.Goes(goes{0, 1}, goes{1, 4}), "b( )b go0:1 a( )a go0:2", "", "0 0"},
		{"who draws first has the first number, whoever claimed first", usual(), [][]call{{begins(0, fine("a"))}, {begins(0, failed("b", 5))}}, aid.Goes(goes{0, 2}, goes{1, 4}), "b( )b go0:1 a( )a go0:2", "", "1:_failed_5 2"},
		{"a Go comes between a Close's look and its claim: it looks again", usual(), [][]call{{begins(0, fine("a"))}, {closes(0)}}, aid.Goes(goes{1, 1}, goes{0, 4}, goes{1, rest}), "a( )a go0:1 close0:yes", "", "0 0"},
		{"two who close", usual(), [][]call{{closes(0)}, {closes(0)}}, []int{0, 1, 1, 0}, "close0:yes close0:no", "", "0 0"},
		{"who waits ahead of the task's beginning waits for it", usual(), [][]call{{begins(0, fine("a", adds()))}, {waits(0)}}, aid.Goes(goes{0, 2}, goes{1, 4}), "a( go0:1 add:1 )a wait0:0", "", "0 0"},
		{"who waits behind the function's end waits for the task's", usual(), [][]call{{begins(0, fine("a"))}, {waits(0), begins(0, fine("z"))}}, aid.Goes(goes{0, 4}, goes{0, 3}), "a( )a go0:1 wait0:0 go0:ErrClosed", "", "0 0"},
		{"who waits sleeps on till the last one has ended", usual(), [][]call{{begins(0, fine("a")), begins(0, fine("b", adds()))}, {waits(0)}}, aid.Goes(goes{0, 8}, goes{0, 3}), "a( )a go0:1 b( go0:2 add:1 )b wait0:0", "", "0 0"},
		{"who waits is told behind the Cancel's end", []call{opens(-1), onCancels(own, fine("c", adds(), adds()))}, [][]call{{begins(0, failed("a", 5))}, {waits(0), adds()}}, aid.Goes(goes{0, 4}, goes{1, 3}, goes{0, 4}), "a( )a go0:1 c(2 add:1 add:2 )c wait0:1:_failed_5 add:3", "", "1:_failed_5 2"},
		{"all who wait are told the same", usual(), [][]call{{begins(0, failed("a", 5)), begins(0, fallen("b", "x")), waits(0)}, {waits(0)}, {waits(0), waits(0)}}, aid.Goes(goes{0, 8}, goes{-1, 1}), "a( )a go0:1 b( )b go0:2 wait0:2:_panic wait0:2:_panic wait0:2:_panic wait0:2:_panic", "", "2:_panic 2"},
		{"who fails first is told of, whatever his number", usual(), [][]call{{begins(0, failed("a", 5, adds())), begins(0, failed("b", 6))}, {waits(0)}}, aid.Goes(goes{0, 8}, goes{-1, 2}), "a( go0:1 b( )b go0:2 add:1 )a wait0:2:_failed_6", "", "2:_failed_6 2"},
		{"somebody else cancels the token between a failure and its Cancel", usual(), [][]call{{begins(0, failed("a", 5))}, {cancels(own, 9), waits(0)}}, aid.Goes(goes{0, 4}, goes{1, 1}, goes{0, 9}), "a( )a go0:1 cancels0(9):yes wait0:1:_failed_5", "", "1:_failed_5 9"},
		{"one who fails wakes those who wait for the token", usual(), [][]call{{begins(0, fine("a", sleeps(own))), begins(0, fine("b", sleeps(own))), begins(0, failed("c", 5)), waits(0)}}, nil, "a( go0:1 b( go0:2 c( )c go0:3 sleeps0:2 )a sleeps0:2 )b wait0:3:_failed_5", "", "3:_failed_5 2"},
		{"one who fails behind them has no say", usual(), [][]call{{begins(0, failed("a", 5, sleeps(own))), begins(0, failed("b", 6)), waits(0)}}, nil, "a( go0:1 b( )b go0:2 sleeps0:2 )a wait0:2:_failed_6", "", "2:_failed_6 2"},
		{"the token above is cancelled", []call{opens(0)}, [][]call{{begins(0, fine("a", sleeps(own))), waits(0)}, {cancels(0, 9)}}, aid.Goes(goes{0, 4}), "a( go0:1 sleeps0:9 )a cancel0(9):yes wait0:0", "", "0 9"},
		{"one who fails cancels what is below his scope's token, and nothing above", []call{opens(0), opens(own), opens(own + 1)}, [][]call{{begins(2, fine("a", sleeps(own+2))), begins(1, failed("b", 5)), waits(2), waits(1), begins(0, fine("c", reasons(own), reasons(0)))}}, nil, "a( go2:1 b( )b go1:1 sleeps2:2 )a wait2:0 wait1:1:_failed_5 c( go0:1 reasons0:0 reason0:0 )c", "", "0 0, 1:_failed_5 2, 0 2"},
		{"a task begins others, and closes its scope", usual(), [][]call{{begins(0, fine("a", begins(0, fine("b", adds())), closes(0), begins(0, fine("z"))))}, {waits(0)}}, aid.Goes(goes{0, 4}, goes{-1, 9}, goes{0, 9}), "a( go0:1 b( go0:2 add:1 )b close0:yes go0:ErrClosed )a wait0:0", "", "0 0"},
		{"a task of one scope waits for another", []call{opens(-1), opens(-1)}, [][]call{{begins(0, fine("a", waits(1))), begins(1, failed("b", 5, adds())), waits(0)}, {waits(1)}}, aid.Goes(goes{0, 8}), "a( go0:1 b( go1:1 add:1 )b wait1:1:_failed_5 wait1:1:_failed_5 )a wait0:0", "", "0 0, 1:_failed_5 2"},
		{"a task that waits for its own scope sleeps for good", usual(), [][]call{{begins(0, fine("a", waits(0)))}, {waits(0)}}, aid.Goes(goes{0, 4}), "a( go0:1", "1 park c0 3: 3; 2 park c0 3: 3", "lives 0"},
		{"tasks that wait for one another's scope sleep for good", []call{opens(-1), opens(-1)}, [][]call{{begins(0, fine("a", waits(1))), begins(1, fine("b", waits(0)))}}, aid.Goes(goes{0, 8}), "a( go0:1 b( go1:1", "1 park c2 3: 3; 2 park c0 3: 3", "lives 0, lives 0"},
		{"who waits for a task that waits for its token sleeps till that is cancelled", usual(), [][]call{{begins(0, fine("a", sleeps(own)))}, {waits(0)}}, aid.Goes(goes{0, 4}), "a( go0:1", "1 park c0 3: 3; 2 park c2 0: 0", "lives 0"},
	} {
		p := newPair(t, 1, m.first)
		from := len(p.is.story)
		r := p.run(t, m.calls, m.picks, api.MaxTurns)
		end := api.Over
		if m.left != "" {
			end = api.Dead
		}
		if s, left := p.is.story[from:].String(), aid.Texts(r.Left); s != m.told || left != m.left || r.End != end {
			t.Errorf("P19.2 to P19.4: %s: end %d, left %s:\n got %s\nwant %s: %s", m.what, r.End, left, s, m.told, aid.Texts(r.Log))
		}
		if p.ends(t); p.is.cameTo() != m.then {
			t.Errorf("P19.2 to P19.4: %s: behind it %s, not %s", m.what, p.is.cameTo(), m.then)
		}
	}
}

// TestLate: a thread that stands at whatever access of a call, while others make all kinds of calls.
func TestLate(t *testing.T) {
	own := ofScope
	firsts := [][]call{usual(), {opens(0)}, {opens(-1), closes(0)}, {opens(-1), begins(0, failed("f", 4))}, {opens(0), cancels(0, 9)}, {opens(-1), onCancels(own, fine("c", begins(0, fine("d"))))}}
	calls := []call{begins(0, fine("a")), begins(0, failed("a", 5)), begins(0, fallen("a", "x", adds())), begins(0, fine("a", closes(0), adds())), closes(0), waits(0), opens(own), cancels(own, 6)}
	others := [][]call{{begins(0, fine("b"))}, {closes(0), begins(0, fine("b"))}, {waits(0), begins(0, fine("b"))}, {begins(0, failed("b", 7)), waits(0)}, {cancels(own, 8), reasons(own)}, {opens(own), begins(1, fine("b")), waits(1)}}
	for _, first := range firsts {
		for _, c := range calls {
			for _, other := range others {
				for stands := range 10 {
					for _, who := range []int{0, -1} { // it stands for good, or its task does
						p := newPair(t, 1, first)
						r := p.run(t, [][]call{{c}, other}, aid.Goes([2]int{who, stands}, [2]int{1, 99}), api.MaxTurns)
						if p.ends(t); t.Failed() || r.End == api.Cut {
							t.Fatalf("behind %v: %v stands at %d, beside %v: %s", texts(first), c.text(), stands, texts(other), aid.Texts(r.Log))
						}
					}
				}
			}
		}
	}
}

// TestMany: so many threads that go by turns, at their accesses all at one time.
func TestMany(t *testing.T) {
	for seed := range 24 {
		calls := make([][]call, 20)
		for h := range calls {
			s := h % 3
			name := strconv.Itoa(h)
			calls[h] = [][]call{
				{begins(s, fine("a"+name, adds(), adds())), waits(s)},
				{begins(s, failed("b"+name, int64(h), adds())), begins((s+1)%3, fine("c"+name))},
				{begins(s, fine("d"+name, begins(s, fallen("e"+name, "x")), adds())), waits(s)},
				{waits(s), begins(s, fine("z"))}, {begins(s, fine("f"+name, reasons(ofScope+s))), closes(s), waits(s)},
			}[(h+seed)%5]
		}
		p := newPair(t, 1, []call{opens(-1), opens(0), opens(ofScope)})
		r := p.run(t, calls, aid.Spread((seed%2)<<10, 7*(seed+1)), api.MaxTurns)
		if p.ends(t); t.Failed() || r.End != api.Over {
			t.Fatalf("what follows: %d: end %d", seed, r.End)
		}
	}
}

// TestThreadsRunOut: where a run has all its threads a Go is refused, and has but used up a number; who waits meanwhile does not wait for that.
func TestThreadsRunOut(t *testing.T) {
	const room = api.MaxThreads - 2 // beside two who make calls
	for seed := range 12 {
		var mine []call
		for range room + 3 {
			mine = append(mine, begins(0, fine("a")))
		}
		p := newPair(t, 0, usual())
		from := len(p.is.story)
		goes := aid.Goes([2]int{0, 4*room + seed}, [2]int{1, 5}, [2]int{0, 99})
		r := p.run(t, [][]call{mine, {waits(0)}}, goes, api.MaxTurns)
		want := ""
		for i := range room {
			want += "a( )a go0:" + strconv.Itoa(i+1) + " "
		}
		for i := range 3 { // each makes five accesses; behind the second one it has claimed
			want += map[bool]string{true: "go0:ErrMany ", false: "go0:ErrClosed "}[5*i+2 <= seed]
		}
		if s := p.is.story[from:].String(); s != want+"wait0:0" || r.End != api.Over {
			t.Errorf("P19.2: %d: end %d: ..%s, not ..%s", seed, r.End, s[len(s)-60:], want[len(want)-60:])
		}
		p.ends(t)
		w := ours(0, usual()...)
		if _, told := w.one(begins(0, fine("a")), waits(0)); told != "a( )a go0:1 wait0:0" {
			t.Errorf("P19.2: in another run: %s", told)
		}
	}
}

// TestRefusedWakes: the last one whom a Wait waits for is a Go that finds no thread.
func TestRefusedWakes(t *testing.T) {
	for _, closed := range []bool{false, true} {
		w := ours(0, usual()...)
		bodies := w.bodies([][]call{{begins(0, fine("never"))}, {waits(0)}})
		for len(bodies) < api.MaxThreads {
			bodies = append(bodies, nil)
		}
		picks := aid.Goes([2]int{0, 2}, [2]int{1, 3}, [2]int{0, 9}) // it has claimed, and the other one sleeps
		want := "0 load c0: 0; 0 cas c0 0 2: 0 ok; 1 load c0: 2; 1 cas c0 2 3: 2 ok; 1 load c0: 3; 0 add c1 1: 0; 0 go: -1; 0 add c0 -2: 3; 1 park c0 3: 1; 1 load c2: 0"
		said := "go0:ErrMany wait0:0"
		if closed {
			w.one(closes(0))
			want, said = "0 load c0: 1; 1 load c0: 1; 1 load c0: 1; 1 load c1: 0", "go0:ErrClosed wait0:0"
		}
		from := len(w.story)
		r := gate.Run(picks, api.MaxTurns, bodies...)
		if s := w.story[from:].String(); aid.Texts(r.Log) != want || s != said || len(w.follows(r.Log, len(bodies))) != 0 {
			t.Errorf("P19.2: closed %v: %s: %s\nnot %s: %v", closed, s, aid.Texts(r.Log), want, w.follows(r.Log, len(bodies)))
		}
	}
}

// TestSomebodyEnds: runs in which nobody waits for what he, or one who waits for him, is to bring: tasks wait but for scopes that come behind theirs, and for tokens that somebody else cancels: none is dead.
func TestSomebodyEnds(t *testing.T) {
	slept := 0
	for seed := range int64(4000) {
		r := rand.New(rand.NewSource(seed))
		scopes := 1 + r.Intn(3)
		first := []call{opens(-1)}
		for range scopes - 1 {
			first = append(first, opens(aid.Some(r.Intn, []int{-1, 0, ofScope})))
		}
		names := 0
		var task func(s, depth int) call
		task = func(s, depth int) call {
			names++
			d := aid.Some(r.Intn, []*deed{fine(""), fine(""), failed("", 5), fallen("", "x")})
			d.name = "d" + strconv.Itoa(names)
			for range r.Intn(4) {
				next := s + 1 + r.Intn(3)
				c := aid.Some(r.Intn, []call{adds(), adds(), closes(r.Intn(scopes)), sleeps(ofScope + s), reasons(ofScope + s), waits(next)})
				if c.op == wait && next >= scopes {
					c = task(s+r.Intn(scopes-s), depth+1)
				}
				if depth < 3 && c.op == add && r.Intn(2) == 0 {
					c = task(r.Intn(scopes), depth+1)
				}
				d.calls = append(d.calls, c)
			}
			return begins(s, d)
		}
		calls := [][]call{nil}
		for s := range scopes {
			calls[0] = append(calls[0], cancels(ofScope+s, int64(3+s)))
		}
		for range 1 + r.Intn(3) {
			var l []call
			for range r.Intn(4) {
				l = append(l, task(r.Intn(scopes), 1))
			}
			calls = append(calls, append(l, waits(r.Intn(scopes))))
		}
		r.Shuffle(len(calls), func(i, j int) { calls[i], calls[j] = calls[j], calls[i] })
		p := newPair(t, 1, first)
		report := p.run(t, calls, aid.Mixed(seed, r.Intn, 90, []int{1, 2, 5, 9}), api.MaxTurns)
		for _, a := range report.Log {
			slept += aid.Digit(a.Op == api.OpPark)
		}
		if p.ends(t); t.Failed() || report.End != api.Over {
			t.Fatalf("W3, what follows: seed %d: behind %v: %v: end %d: %s", seed, texts(first), calls, report.End, aid.Texts(report.Log))
		}
	}
	if slept < 2000 {
		t.Errorf("the threads are no good: %d", slept)
	}
}

// TestStopped: threads that are stopped at whatever accesses of their calls: the gate's own panic comes out of them, then and at each later call, and nothing is changed but by what was done, as by the words.
func TestStopped(t *testing.T) {
	own := ofScope
	later := []call{closes(0), begins(0, fine("z")), waits(0), opens(own), cancels(own, 3)}
	for _, first := range [][]call{usual(), {opens(0), begins(0, failed("f", 4))}, {opens(-1), closes(0)}, {opens(-1), onCancels(own, fine("c", adds()))}} {
		for _, mine := range [][]call{{begins(0, fine("a", adds()))}, {begins(0, failed("a", 5, adds()))}, {begins(0, fallen("a", "x", grabs()))}, {closes(0)}, {waits(0)}, {opens(own), begins(1, fine("a", sleeps(own+1))), waits(1)}, {begins(0, fine("a", waits(0)))}} {
			for turns := range 12 {
				for _, picks := range [][]int{nil, make([]int, 99), slices.Repeat([]int{-1}, 99)} {
					stopped(t, first, mine, later, picks, turns)
				}
			}
		}
	}
}

// stopped: a thread that makes these calls, and those that it begins, are stopped behind so many turns.
func stopped(t *testing.T, first, mine, later []call, picks []int, turns int) {
	t.Helper()
	p := newPair(t, 1, first)
	out := map[*world][]bool{} // whether the gate's own panic comes out
	leaves := func(w *world) aid.Body {
		return func(t *gate.Thread) {
			out[w] = append(out[w], gate.Is(aid.Caught(func() { w.makes(t, mine...) })))
			for _, c := range later {
				out[w] = append(out[w], gate.Is(aid.Caught(func() { w.makes(t, c) })))
			}
		}
	}
	r, faults := aid.MirrorTold(picks, turns, []aid.Body{leaves(p.is)}, []aid.Body{leaves(p.as)}, &p.is.story, &p.as.story)
	isLeft := slices.ContainsFunc(r.Left, func(a api.Access) bool { return a.Thread == 0 })
	if from := slices.Index(out[p.is], true); !slices.Equal(out[p.is], out[p.as]) || (from >= 0) != isLeft || isLeft && slices.Contains(out[p.is][from:], false) {
		t.Errorf("R1: the gate's own panic comes out of the calls %v", out[p.is])
	}
	for _, f := range faults {
		t.Errorf("R1, P19.1 to P19.4: %s", f)
	}
	if p.ends(t); t.Failed() {
		t.Fatalf("behind %v: %v, %d turns: %s; left %s", texts(first), texts(mine), turns, aid.Texts(r.Log), aid.Texts(r.Left))
	}
}

// TestFallen: a body that falls beside its calls leaves all as it is; calls that it deferred are done, and tasks that it began go on.
func TestFallen(t *testing.T) {
	w := ours(0, usual()...)
	r := gate.Run(nil, 999, func(t *gate.Thread) {
		defer w.makes(t, waits(0))
		w.makes(t, begins(0, fine("a", adds())), begins(0, failed("b", 5, adds())))
		panic("x")
	})
	if got := w.cameTo(); !slices.Equal(r.Fell, []int{0}) || r.End != api.Over || len(w.follows(r.Log, 1)) != 0 || got != "2:_failed_5 2" {
		t.Errorf("what follows: %s: %v: %s", got, w.follows(r.Log, 1), aid.Texts(r.Log))
	}
}
