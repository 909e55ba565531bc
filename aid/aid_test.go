package aid_test

import (
	"slices"
	"sync/atomic"
	"testing"

	"treadle/aid"
	"treadle/api"
	"treadle/gate"
)

// two threads: one adds 1 and sees whether it can lay 5 where 1 was; one loads, lays 3 and parks on 3 in another cell.
func run(picks ...int) api.Report {
	var x, y atomic.Int64
	return gate.Run(picks, 9, func(t *gate.Thread) {
		t.Step(&x, api.OpAdd, 1, 0)
		t.Step(&x, api.OpCas, 1, 5)
	}, func(t *gate.Thread) {
		t.Step(&x, api.OpLoad, 0, 0)
		t.Step(&y, api.OpSwap, 3, 0)
		t.Step(&y, api.OpPark, 3, 0)
	})
}

// faults: what is found in a report, held against the steps of such threads.
func faults(r api.Report) []string {
	of := aid.Of(r)
	first := of.Thread(0, func(s *aid.Steps) {
		s.Add(0, 1)
		s.Cas(0, 1, 5)
	})
	second := of.Thread(1, func(s *aid.Steps) {
		s.Load(0)
		s.Swap(1, 3)
		s.Park(1, 3)
	})
	l := of.Faults()
	if ends := of.Ends(map[int]int64{}); ends[0] != 5 || ends[1] != 3 {
		l = append(l, "ends")
	}
	if !first || second {
		l = append(l, "whole")
	}
	return append(l, of.Faults()...)
}

func TestARecordThatHolds(t *testing.T) {
	for _, picks := range [][]int{nil, {1}, {1, 1}, {0, 0}, {0, 1, 1, 0}} {
		if l := faults(run(picks...)); len(l) != 0 {
			t.Errorf("%v: %v", picks, l)
		}
	}
}

// TestARecordThatDoesNot: each change of a record is seen.
func TestARecordThatDoesNot(t *testing.T) {
	for i := range run().Log {
		for what, f := range map[string]func(a *api.Access){
			"thread": func(a *api.Access) { a.Thread = 1 - a.Thread },
			"op":     func(a *api.Access) { a.Op = 7 - a.Op },
			"cell":   func(a *api.Access) { a.Cell = 1 - a.Cell },
			"arg":    func(a *api.Access) { a.Arg++ },
			"new":    func(a *api.Access) { a.New++ },
			"was":    func(a *api.Access) { a.Was++ },
			"now":    func(a *api.Access) { a.Now++ },
			"ok":     func(a *api.Access) { a.Ok = !a.Ok },
		} {
			r := run()
			if f(&r.Log[i]); len(faults(r)) == 0 {
				t.Errorf("%s: no fault in %+v", what, r.Log)
			}
		}
	}
	for what, f := range map[string]func(r *api.Report){
		"one is missing":       func(r *api.Report) { r.Log = slices.Delete(r.Log, 1, 2) },
		"the last is missing":  func(r *api.Report) { r.Log = r.Log[:3] },
		"one too many":         func(r *api.Report) { r.Log, r.Went = append(r.Log, r.Log[0]), append(r.Went, 0) },
		"another one went":     func(r *api.Report) { r.Went[0] = 1 },
		"nobody is left":       func(r *api.Report) { r.Left = nil },
		"another is left":      func(r *api.Report) { r.Left[0].Thread = 0 },
		"left at another op":   func(r *api.Report) { r.Left[0].Op = api.OpLoad },
		"left at another arg":  func(r *api.Report) { r.Left[0].Arg = 4 },
		"left, and can go on":  func(r *api.Report) { r.Left[0].Was, r.Left[0].Now = 4, 4 },
		"left, and it changes": func(r *api.Report) { r.Left[0].Now = 4 },
	} {
		r := run()
		if f(&r); len(faults(r)) == 0 {
			t.Errorf("%s: no fault in %+v", what, r)
		}
	}
}

// TestSpans: of calls of two accesses each, of which the first thread makes one and a half.
func TestSpans(t *testing.T) {
	var x atomic.Int64
	body := func(t *gate.Thread) {
		for range 4 {
			t.Step(&x, api.OpAdd, 1, 0)
		}
	}
	r := gate.Run([]int{1, 0, 1, 0, 1, 0}, 7, body, body)
	for thread, want := range [][]aid.Span{{{1, 3}, {5, 7}, {}}, {{0, 2}, {4, 6}, {7, 6}}} {
		of, got := aid.Of(r), make([]aid.Span, 3)
		of.Thread(thread, func(s *aid.Steps) {
			for i := range got {
				s.Span(&got[i], func() {
					for range []int{2, 2, 0}[i] {
						s.Add(0, 1)
					}
				})
			}
		})
		if !slices.Equal(got, want) || len(of.Faults()) != 0 {
			t.Errorf("the thread %d: %v, not %v: %v", thread, got, want, of.Faults())
		}
	}
}

func TestEvery(t *testing.T) {
	var x atomic.Int64
	add := func(t *gate.Thread) {
		t.Step(&x, api.OpAdd, 1, 0)
		t.Step(&x, api.OpAdd, 1, 0)
	}
	seen := map[string]bool{}
	n := aid.Every(9, func(picks []int) []int {
		r := gate.Run(picks, len(picks), add, add)
		s := ""
		for _, w := range r.Went {
			s += string(rune('0' + w))
		}
		seen[s] = true
		return r.Ready
	})
	if n != 6 || len(seen) != 6 {
		t.Errorf("%d schedules, %d unlike: %v", n, len(seen), seen)
	}
	if n := aid.Every(0, func([]int) []int { return nil }); n != 1 {
		t.Errorf("of none: %d", n)
	}
}

func TestTexts(t *testing.T) {
	want := "0 add c0 1: 0; 1 load c0: 1; 0 cas c0 1 5: 1 ok; 1 swap c1 3: 0"
	if s := aid.Texts(run().Log); s != want {
		t.Errorf("%s, not %s", s, want)
	}
}

func TestThreads(t *testing.T) {
	for what, th := range aid.NotLiving() {
		if th.Live() || (th == nil) != (what == "nil") {
			t.Errorf("%s", what)
		}
	}
	l := aid.FreeThreads()
	if len(l) != len(aid.NotLiving()) || slices.ContainsFunc(l, (*gate.Thread).Live) || slices.Index(l, nil) != slices.Index(aid.FreeThreads(), nil) {
		t.Errorf("%v", l)
	}
	if _, own := aid.Stopped(); !gate.Is(own) {
		t.Errorf("%v", own)
	}
}
