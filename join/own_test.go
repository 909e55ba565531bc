package join_test

import (
	"io"
	"runtime"
	"slices"
	"testing"
	"weak"

	"treadle/aid"
	"treadle/api"
	"treadle/fault"
	"treadle/future"
	"treadle/gate"
	"treadle/join"
)

// What is whose: a call's, a caller's, a thread's.

// joins: each kind of call that makes a future of others: what it answers.
func joins() map[string]func(t *gate.Thread, l ...*future.Future) (*future.Future, api.Errno) {
	return map[string]func(t *gate.Thread, l ...*future.Future) (*future.Future, api.Errno){
		"All": func(t *gate.Thread, l ...*future.Future) (*future.Future, api.Errno) {
			j, e := join.All(t, l...)
			return j.Future(), e
		},
		"Any":         join.Any,
		"Quorum of 1": func(t *gate.Thread, l ...*future.Future) (*future.Future, api.Errno) { return join.Quorum(t, 1, l...) },
		"Quorum of all": func(t *gate.Thread, l ...*future.Future) (*future.Future, api.Errno) {
			return join.Quorum(t, len(l), l...)
		},
	}
}

// three: three futures.
func three() futures { return futures{future.New(), future.New(), future.New()} }

// TestNotLiving: a call that is handed a thread that does not live makes no access of the thread in whose goroutine it is, nor do the functions that are called in it.
func TestNotLiving(t *testing.T) {
	for what, th := range aid.NotLiving() {
		w, got := newWorld(made, 3), ""
		w.awake = true
		r := gate.Run(nil, 9, func(*gate.Thread) {
			got = w.makes(th, alls(0, 1), somes(0, 2), quorums(2, 0, 1, 2), alls(), quorums(0, 1), completes(0, 5, nil), thens(3, busy("A", adds(), asks(3))), completes(1, 6, nil), asks(3), awaits(4), awaits(5), asks(6), awaits(7), alls(0, 1), asks(8), somes(2))
		})
		if want := "all(0,1):#3 any(0,2):#4 quorum2(0,1,2):#5 all():#6 quorum0(1):#7 complete0:yes then3:ok A:2( add:1 values3:[5,6] ) complete1:yes values3:[5,6] await4:5 await5:2 values6:[] await7:0 all(0,1):#8 values8:[5,6] any(2):#9"; got != want || len(r.Log) != 0 || r.End != api.Over {
			t.Errorf("P16.1 to P16.4: %s: %s, not %s: %+v", what, got, want, r)
		}
	}
}

// TestFutureIsTheJoints: each time the same one, without an access, and none of those that were handed in.
func TestFutureIsTheJoints(t *testing.T) {
	x := future.New()
	var j, i *join.Joint
	r := gate.Run(nil, 9, func(th *gate.Thread) {
		j, _ = join.All(th, x)
		th.Mark(1, 10)
		if g := j.Future(); g == nil || g == x || g != j.Future() {
			t.Error("P16.2: it is another one")
		}
		i, _ = join.All(th, x)
	})
	if got, want := aid.Texts(r.Log), "0 load c0: 0; 0 add c1 1: 0; 0 cas c0 0 1: 0 ok; 0 mark 1 10; 0 load c0: 1; 0 add c1 1: 1; 0 cas c0 1 2: 1 ok"; got != want || i == j || i.Future() == j.Future() {
		t.Errorf("P16.1, P16.2: %s, not %s", got, want)
	}
}

// TestEachIsItsOwn: what one joint has another has not; nor have others what one of them has that is made of the same.
func TestEachIsItsOwn(t *testing.T) {
	w := ours(3)
	got := w.alone(alls(0, 1), alls(1, 0), alls(0, 2), somes(0, 1), somes(1, 0), quorums(1, 0, 1), quorums(2, 0, 1), completes(3, 9, nil), completes(6, 8, io.EOF), completes(9, 7, nil), completes(0, 5, nil), peeks(4), peeks(5), peeks(6), peeks(7), peeks(8), peeks(9), completes(1, 6, failed(4)), peeks(4), asks(3), peeks(5), peeks(9))
	want := "all(0,1):#3 all(1,0):#4 all(0,2):#5 any(0,1):#6 any(1,0):#7 quorum1(0,1):#8 quorum2(0,1):#9 complete3:yes complete6:yes complete9:yes complete0:yes peek4:none peek5:none peek6:EOF peek7:5 peek8:1 peek9:7 complete1:yes peek4:0:_failed_4 values3:[5,0] peek5:none peek9:7"
	if got != want || len(w.follows(true)) != 0 {
		t.Errorf("P16.1 to P16.4: %s, not %s: %v", got, want, w.follows(true))
	}
}

// TestFromOutside: a joint future is a future: whoever completes it first is told so, and what it hangs on goes on. The values of a joint are what is there.
func TestFromOutside(t *testing.T) {
	by(t, func(who string, th *gate.Thread) {
		l := three()
		j, _ := join.All(th, l...)
		p := j.Future().Claim(th)
		if p == nil || j.Future().Complete(th, 8, nil) || !l[2].Complete(th, 7, nil) || !p.Fill(th, 9, nil) {
			t.Errorf("P16.2: by %s", who)
		}
		for n, want := range [][]int64{{0, 0, 7}, {5, 0, 7}, {5, 0, 7}} {
			if v, e := j.Values(th); !slices.Equal(v, want) || e != nil || aid.Told(j.Future().Await(th)) != aid.Told(9, nil) {
				t.Errorf("P16.2: by %s: %d: %v %v", who, n, v, e)
			}
			l[n].Complete(th, 5, []error{nil, io.EOF, nil}[n])
		}
		for what, joins := range joins() {
			l := three()
			g, _ := joins(th, l...)
			h, _ := joins(th, l...)
			is := g.Complete(th, 9, io.EOF)
			for _, x := range l {
				is = is && x.Complete(th, 5, nil)
			}
			if a, b := aid.Told(g.Await(th)), aid.Told(h.Await(th)); !is || a != aid.Told(0, io.EOF) || b.E != nil || h.Complete(th, 7, nil) {
				t.Errorf("%s, by %s: %v: %v; %v", what, who, is, a, b)
			}
		}
	})
}

// TestValuesAreTheCallersOwn: a list of values, with its spare room, is nobody else's.
func TestValuesAreTheCallersOwn(t *testing.T) {
	l := three()
	j, _ := join.All(nil, l...)
	for i, x := range l {
		x.Complete(nil, int64(i+4), nil)
	}
	want := []int64{4, 5, 6}
	a, _ := j.Values(nil)
	b, _ := j.Values(nil)
	for _, x := range [][]int64{a[:cap(a)], append(a, 77)} {
		for i := range x {
			x[i] = -5
		}
	}
	if c, e := j.Values(nil); !slices.Equal(b, want) || !slices.Equal(c, want) || e != nil {
		t.Errorf("R5: %v, %v, not %v: %v", b, c, want, e)
	}
}

// TestTheListIsTheCallers: it is not changed, with its spare room, nor is it looked at when the call has answered.
func TestTheListIsTheCallers(t *testing.T) {
	for what, joins := range joins() {
		all := append(three(), three()...)
		all[4], all[5] = nil, new(future.Future)
		l, was := all[:3], slices.Clone(all)
		g, e := joins(nil, l...)
		if !slices.Equal(all, was) || e != api.OK {
			t.Errorf("R5: %s: the list is changed: %d", what, e)
		}
		clear(all)
		all[0] = future.New()
		for i, x := range was[:3] {
			x.Complete(nil, int64(i+4), nil)
		}
		if v, e, done := g.Peek(nil); !done || e != nil {
			t.Errorf("R5: %s: %d %v %v", what, v, e, done)
		}
		if g, e := joins(nil, futures{was[0], nil}...); g != nil || e != api.ErrNil {
			t.Errorf("R5: %s: %v %d", what, g != nil, e)
		}
		none, e := joins(nil, nil...)
		empty, f := joins(nil, futures{}...)
		if e != f || (none == nil) != (empty == nil) || none == empty && none != nil {
			t.Errorf("R4: %s: %d of no list, %d of one without anything", what, e, f)
		}
	}
}

// value: one that holds memory.
type value [100]int

func isKept[T any](p weak.Pointer[T]) bool {
	for range 9 {
		runtime.GC()
	}
	return p.Value() != nil
}

// TestNothingIsKept: neither the list nor the futures in it are kept by what is made of them, nor is a thread; nor do they keep that when they are filled.
func TestNothingIsKept(t *testing.T) {
	for what, joins := range joins() {
		for _, fills := range []int{0, 1, 3} {
			made := func() (g *future.Future, l []*future.Future, list weak.Pointer[[3]*future.Future], x weak.Pointer[future.Future], by weak.Pointer[gate.Thread]) {
				all := [3]*future.Future(three())
				here := &[3]*future.Future{all[0], all[1], all[2]}
				gate.Run(nil, 99, func(th *gate.Thread) {
					by = weak.Make(th)
					g, _ = joins(th, here[:]...)
				})
				for _, y := range all[:fills] {
					y.Complete(nil, 5, nil)
				}
				return g, slices.Clone(all[1:]), weak.Make(here), weak.Make(all[0]), by
			}
			g, l, list, x, by := made()
			if isKept(list) || isKept(x) || isKept(by) {
				t.Errorf("what is kept: %s, %d are filled: the list: %v, a future: %v, the thread: %v", what, fills, isKept(list), isKept(x), isKept(by))
			}
			runtime.KeepAlive(g)
			w := weak.Make(g)
			if g = nil; isKept(w) == (fills == 3) {
				t.Errorf("what is kept: %s, %d are filled: what is made of them: %v", what, fills, fills != 3)
			}
			runtime.KeepAlive(l)
		}
	}
}

// holds: an error that holds memory.
type holds struct{ value }

func (*holds) Error() string { return "holds" }

// TestErrorsAreNotKept: but the one that is told, neither by a joint nor by what else is made of others.
func TestErrorsAreNotKept(t *testing.T) {
	for what, tells := range map[string]bool{"All": true, "Any": true, "Quorum": false} {
		for first := range 3 { // so many have values
			made := func() (*join.Joint, *future.Future, [3]weak.Pointer[holds]) {
				l, errs := three(), [3]weak.Pointer[holds]{}
				j, _ := join.All(nil, l...)
				g := j.Future()
				switch what {
				case "Any":
					j = nil
					g, _ = join.Any(nil, l[first:]...)
				case "Quorum":
					j = nil
					g, _ = join.Quorum(nil, 3, l...)
				}
				for i, x := range l {
					if i < first {
						x.Complete(nil, 5, nil)
						continue
					}
					e := new(holds)
					errs[i] = weak.Make(e)
					x.Complete(nil, 0, e)
				}
				return j, g, errs
			}
			j, g, errs := made()
			for i, e := range errs {
				if kept := isKept(e); kept != (tells && i == first) {
					t.Errorf("what is kept: %s, the first %d have values: the error of the number %d: %v", what, first, i, kept)
				}
			}
			if _, e := g.Await(nil); e == nil || tells != (len(fault.Numbers(e)) == 1) {
				t.Errorf("%s, the first %d have values: %v", what, first, e)
			}
			runtime.KeepAlive(j)
		}
	}
}

// TestAJointKeepsNothing: but the values and its future; not the list, nor the futures in it, the thread that made it, nor whoever completed them.
func TestAJointKeepsNothing(t *testing.T) {
	for _, fills := range []int{0, 1, 3} {
		made := func() (j *join.Joint, x weak.Pointer[future.Future], by, other weak.Pointer[gate.Thread]) {
			l := three()
			gate.Run(nil, 99, func(th *gate.Thread) {
				by = weak.Make(th)
				j, _ = join.All(th, l...)
			}, nil)
			gate.Run(nil, 99, func(th *gate.Thread) {
				other = weak.Make(th)
				for _, y := range l[:fills] {
					y.Complete(th, 5, nil)
				}
			})
			return j, weak.Make(l[0]), by, other
		}
		j, x, by, other := made()
		if isKept(x) || isKept(by) || isKept(other) {
			t.Errorf("what is kept: %d are filled: a future: %v, the threads: %v %v", fills, isKept(x), isKept(by), isKept(other))
		}
		runtime.KeepAlive(j)
	}
}
