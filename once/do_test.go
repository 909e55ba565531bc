package once_test

import (
	"errors"
	"runtime"
	"slices"
	"testing"

	"treadle/aid"
	"treadle/api"
	"treadle/cell"
	"treadle/gate"
	"treadle/once"
)

func adds(x *cell.Cell) body { return func(t *gate.Thread) { x.Add(t, 1) } }

// TestExamples: the chapter's table, and what each picks besides.
func TestExamples(t *testing.T) {
	ok, late, fell := answer{ok: true}, answer{}, answer{e: api.ErrFell}
	for _, row := range []struct {
		what   string
		picks  []int
		bodies func(o *once.Once, x *cell.Cell, told func(answer)) []body
		log    string
		end    int8
		told   []answer // as they are answered
		last   answer   // of Done, behind the run
	}{
		{"alone", nil, func(o *once.Once, x *cell.Cell, told func(answer)) []body {
			return []body{func(t *gate.Thread) { told(do(t, o, adds(x))) }}
		}, "0 load c0: 0; 0 cas c0 0 1: 0 ok; 0 add c1 1: 0; 0 store c0 2: 1", api.Over, []answer{ok}, ok},
		{"two", []int{0, 1, 0, 1, 0, 1}, func(o *once.Once, x *cell.Cell, told func(answer)) []body {
			f := func(t *gate.Thread) { told(do(t, o, adds(x))) }
			return []body{f, f}
		}, "0 load c0: 0; 1 load c0: 0; 0 cas c0 0 1: 0 ok; 1 cas c0 0 1: 1 no; 0 add c1 1: 0; 1 load c0: 1; 0 store c0 2: 1; 1 park c0 1: 2; 1 load c0: 2", api.Over, []answer{ok, late}, ok},
		{"falls", nil, func(o *once.Once, x *cell.Cell, told func(answer)) []body {
			return []body{func(t *gate.Thread) {
				told(do(t, o, falls("x")))
				told(do(t, o, adds(x)))
				told(isDone(t, o))
			}}
		}, "0 load c0: 0; 0 cas c0 0 1: 0 ok; 0 store c0 3: 1; 0 load c0: 3; 0 load c0: 3", api.Over, []answer{{fell: "x"}, fell, fell}, fell},
		{"within itself", nil, func(o *once.Once, x *cell.Cell, told func(answer)) []body {
			return []body{func(t *gate.Thread) { told(do(t, o, func(t *gate.Thread) { told(do(t, o, adds(x))) })) }}
		}, "0 load c0: 0; 0 cas c0 0 1: 0 ok; 0 load c0: 1", api.Dead, nil, late},
		{"done, again", nil, func(o *once.Once, x *cell.Cell, told func(answer)) []body {
			return []body{func(t *gate.Thread) {
				told(isDone(t, o))
				told(do(t, o, func(t *gate.Thread) { told(isDone(t, o)) }))
				told(do(t, o, adds(x)))
				told(isDone(t, o))
			}}
		}, "0 load c0: 0; 0 load c0: 0; 0 cas c0 0 1: 0 ok; 0 load c0: 1; 0 store c0 2: 1; 0 load c0: 2; 0 load c0: 2", api.Over, []answer{late, late, ok, late, ok}, ok},
		{"sleeps, and is told that it fell", []int{0, 0, 1, 0}, func(o *once.Once, x *cell.Cell, told func(answer)) []body {
			return []body{
				func(t *gate.Thread) { told(do(t, o, falls(7))) },
				func(t *gate.Thread) { told(do(t, o, adds(x))) },
			}
		}, "0 load c0: 0; 0 cas c0 0 1: 0 ok; 1 load c0: 1; 0 store c0 3: 1; 1 park c0 1: 3; 1 load c0: 3", api.Over, []answer{{fell: 7}, fell}, fell},
	} {
		o, x := once.New(), cell.New(0)
		var got []answer
		r := gate.Run(row.picks, 99, row.bodies(o, x, func(a answer) { got = append(got, a) })...)
		if aid.Texts(r.Log) != row.log || r.End != row.end || !slices.Equal(got, row.told) || len(r.Fell) != 0 {
			t.Errorf("P3.1: %s:\n got %s, end %d, %v\nwant %s, end %d, %v", row.what, aid.Texts(r.Log), r.End, got, row.log, row.end, row.told)
		}
		if row.end == api.Dead && aid.Texts(r.Left) != "0 park c0 1: 1" {
			t.Errorf("P3.1: %s: left: %s", row.what, aid.Texts(r.Left))
		}
		if a := isDone(nil, o); a != row.last {
			t.Errorf("P3.2: %s: %v behind the run, not %v", row.what, a, row.last)
		}
	}
}

// TestDoneIsOneLoad: in each state.
func TestDoneIsOneLoad(t *testing.T) {
	underWay := once.New()
	gate.Run(nil, 2, func(t *gate.Thread) { underWay.Do(t, nothing) })
	for _, row := range []struct {
		o    *once.Once
		log  string
		want answer
	}{
		{once.New(), "0 load c0: 0", answer{}},
		{underWay, "0 load c0: 1", answer{}},
		{finished(), "0 load c0: 2", answer{ok: true}},
		{fallen(), "0 load c0: 3", answer{e: api.ErrFell}},
	} {
		var got answer
		r := gate.Run(nil, 9, func(t *gate.Thread) { got = isDone(t, row.o) })
		if aid.Texts(r.Log) != row.log || got != row.want {
			t.Errorf("P3.2: %s: %v, want %s, %v", aid.Texts(r.Log), got, row.log, row.want)
		}
		if free := isDone(nil, row.o); free != row.want {
			t.Errorf("P3.2: free: %v, want %v", free, row.want)
		}
	}
}

// TestWhatComesOut: f's own panic, with the same value, by a thread and free; and it is no other's.
func TestWhatComesOut(t *testing.T) {
	e, p := errors.New("e"), new(int)
	for what, x := range map[string]any{"number": 3, "text": "x", "error": e, "pointer": p, "false": false, "errno": api.ErrFell, "array": [2]int{1, 2}} {
		for who, th := range aid.NotLiving() {
			o := once.New()
			if a := do(th, o, falls(x)); a.fell != x || isDone(nil, o) != (answer{e: api.ErrFell}) {
				t.Errorf("P3.1: %s, by one that is %s: %v", what, who, a)
			}
		}
		o := once.New()
		var got answer
		r := gate.Run(nil, 9, func(t *gate.Thread) { got = do(t, o, falls(x)) }, func(t *gate.Thread) { o.Do(t, falls(x)) })
		if got.fell != x || len(r.Fell) != 0 || isDone(nil, o) != (answer{e: api.ErrFell}) {
			t.Errorf("P3.1: %s: %v, %+v", what, got, r)
		}
		o = once.New()
		if r = gate.Run(nil, 9, func(t *gate.Thread) { o.Do(t, falls(x)) }); !slices.Equal(r.Fell, []int{0}) || aid.Texts(r.Log) != "0 load c0: 0; 0 cas c0 0 1: 0 ok; 0 store c0 3: 1" {
			t.Errorf("P3.1: %s: not recovered: %+v", what, r)
		}
	}
	list := []int{1, 2}
	if a := do(nil, once.New(), falls(list)); &a.fell.([]int)[0] != &list[0] {
		t.Errorf("P3.1: what can't be compared: %v", a)
	}
	o := once.New()
	var none *runtime.PanicNilError
	if a := do(nil, o, falls(nil)); !errors.As(a.fell.(error), &none) || isDone(nil, o) != (answer{e: api.ErrFell}) {
		t.Errorf("P3.1: nil: %v", a)
	}
	o = once.New()
	var at runtime.Error
	if a := do(nil, o, func(th *gate.Thread) { _ = list[len(list)] }); !errors.As(a.fell.(error), &at) || isDone(nil, o) != (answer{e: api.ErrFell}) {
		t.Errorf("P3.1: an index: %v", a)
	}
}

// TestFIsHandedTheThread: just the one that Do was handed, and its accesses are that thread's.
func TestFIsHandedTheThread(t *testing.T) {
	for what, th := range aid.NotLiving() {
		if a := do(th, once.New(), func(u *gate.Thread) {
			if u != th {
				t.Errorf("P3.1: %s: f is handed another", what)
			}
		}); a != (answer{ok: true}) {
			t.Errorf("P3.1: %s: %v", what, a)
		}
	}
	o := once.New()
	gate.Run(nil, 9, nil, func(th *gate.Thread) {
		o.Do(th, func(u *gate.Thread) {
			if u != th || u.Number() != 1 {
				t.Errorf("P3.1: f is handed another")
			}
		})
	})
}

// TestNotLiving: a call that is handed a thread that does not live makes no access of the thread in whose goroutine it is.
func TestNotLiving(t *testing.T) {
	for what, th := range aid.NotLiving() {
		o := once.New()
		var got []answer
		r := gate.Run(nil, 9, func(*gate.Thread) {
			got = append(got, isDone(th, o), do(th, o, nothing), do(th, o, isUnasked(t.Error)), isDone(th, o))
		})
		if !slices.Equal(got, []answer{{}, {ok: true}, {}, {ok: true}}) || len(r.Log) != 0 || r.End != api.Over {
			t.Errorf("P3.1: %s: %v, %+v", what, got, r)
		}
	}
}

// TestNone: a Once that is none, ahead of a function that is none, by threads of every kind: no access.
func TestNone(t *testing.T) {
	var null *once.Once
	none := map[string]*once.Once{"nil": null, "made by no call": {}, "made by new": new(once.Once)}
	asks := func(who string, th *gate.Thread) {
		for what, o := range none {
			for _, f := range []body{nil, isUnasked(t.Error)} {
				if a := do(th, o, f); a != (answer{e: api.ErrNil}) {
					t.Errorf("P3.1: %s, by %s: %v", what, who, a)
				}
			}
			if a := isDone(th, o); a != (answer{e: api.ErrNil}) {
				t.Errorf("P3.2: %s, by %s: %v", what, who, a)
			}
		}
		for _, o := range []*once.Once{once.New(), finished(), fallen()} {
			if a := do(th, o, nil); a != (answer{e: api.ErrArg}) {
				t.Errorf("P3.1: f is nil, by %s: %v", who, a)
			}
		}
	}
	for _, f := range aid.Idle(asks) {
		t.Errorf("R3: %s", f)
	}
	o := once.New()
	if a := do(nil, o, nil); a != (answer{e: api.ErrArg}) || do(nil, o, nothing) != (answer{ok: true}) {
		t.Errorf("R2: what is refused has changed something: %v", a)
	}
}

// TestEachIsItsOwn: what one Once is, another is not.
func TestEachIsItsOwn(t *testing.T) {
	a, b, c := once.New(), once.New(), once.New()
	do(nil, a, nothing)
	do(nil, b, falls(1))
	if isDone(nil, a) != (answer{ok: true}) || isDone(nil, b) != (answer{e: api.ErrFell}) || isDone(nil, c) != (answer{}) {
		t.Errorf("P3.2: %v, %v, %v", isDone(nil, a), isDone(nil, b), isDone(nil, c))
	}
	if got := do(nil, c, func(t *gate.Thread) { do(t, once.New(), falls(2)) }); got != (answer{ok: true}) {
		t.Errorf("P3.1: %v", got)
	}
}
