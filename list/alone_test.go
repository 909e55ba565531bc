package list_test

import (
	"math/rand"
	"slices"
	"testing"

	"treadle/aid"
	"treadle/api"
	"treadle/gate"
	"treadle/list"
)

// TestExamples: the chapter's table but its last row, by each thread that does not live, and by one that does.
func TestExamples(t *testing.T) {
	for what, th := range aid.NotLiving() {
		examples(t, what, th)
	}
	gate.Run(nil, 999, func(th *gate.Thread) { examples(t, "one that lives", th) })
}

func examples(t *testing.T, what string, th *gate.Thread) {
	for _, row := range []struct {
		most  int
		calls []call
		want  []answer
	}{
		{2, []call{adds(7), adds(8), adds(9), looks, closes, closes, adds(7), looks}, []answer{at(1), at(2), full, all(7, 8), all(7, 8), gone, gone, ended}},
		{0, []call{adds(7), closes}, []answer{full, all()}},
		{9, []call{looks, adds(5), looks, adds(5), looks, looks, closes}, []answer{all(), at(1), all(5), at(2), all(5, 5), all(5, 5), all(5, 5)}},
		{9, []call{closes, looks, adds(5), closes}, []answer{all(), ended, gone, gone}},
	} {
		if got := makes(newList(row.most), th, row.calls...); !slices.Equal(got, row.want) {
			t.Errorf("P9.2 to P9.4: by %s: of %d places %v: %v, not %v", what, row.most, row.calls, got, row.want)
		}
	}
	if newList(-1) != nil || newList(4097) != nil {
		t.Errorf("P9.1: by %s", what)
	}
}

// TestHowMany: of how many places there are lists, of whatever type.
func TestHowMany(t *testing.T) {
	for _, n := range aid.Sizes() {
		want := n >= 0 && n <= 4096
		if (newList(n) != nil) != want || (list.New[string](n) != nil) != want || (list.New[struct{}](n) != nil) != want {
			t.Errorf("P9.1: of %d", n)
		}
	}
}

// TestEachSize: a list of each size takes so many values, and not one more, again and again.
func TestEachSize(t *testing.T) {
	for n := range api.MaxNodes + 1 {
		l := newList(n)
		var want []int64
		for i := range n {
			want = append(want, int64(7*i-9))
			if k, e := l.Add(nil, want[i]); k != i+1 || e != api.OK {
				t.Fatalf("P9.2: of %d places: the Add number %d: %d, %d", n, i, k, e)
			}
		}
		for range 3 {
			if k, e := l.Add(nil, -1); k != 0 || e != api.ErrFull {
				t.Fatalf("P9.2: of %d places: an Add too many: %d, %d", n, k, e)
			}
		}
		if row, closed, e := l.Each(nil); !slices.Equal(row, want) || closed || e != api.OK {
			t.Fatalf("P9.4: of %d places: %d values, %v, %d", n, len(row), closed, e)
		}
		if row, e := l.Close(nil); !slices.Equal(row, want) || e != api.OK {
			t.Fatalf("P9.3: of %d places: %d values, %d", n, len(row), e)
		}
	}
}

// TestNew: what the cells hold at first, and all that becomes of them.
func TestNew(t *testing.T) {
	for _, most := range []int{0, 1, 2, 3, 63, 64, 65, 255, 256, 257, 1000, api.MaxNodes - 1, api.MaxNodes} {
		w := newWorld(most, nil, [][]call{tells(most)})
		r := w.run(t, nil, api.MaxTurns)
		if w.held[lastCell] != 0 || w.held[headCell] != 0 || r.Turns != 1+3*most+2+1+2+1+1 || t.Failed() {
			t.Fatalf("P9.1 to P9.4: of %d places: %d turns", most, r.Turns)
		}
	}
}

// TestSteps: of each call, where nobody else goes between them.
func TestSteps(t *testing.T) {
	one, two := []call{adds(7)}, []call{adds(7), adds(8)}
	for _, row := range []struct {
		most  int
		first []call // free, ahead of it
		c     call
		log   string
		want  answer
	}{
		{2, nil, adds(7), "0 load c0: 0; 0 add c1 1: 0; 0 cas c0 0 1: 0 ok", at(1)},
		{2, one, adds(7), "0 load c0: 1; 0 add c1 1: 1; 0 cas c0 1 2: 1 ok", at(2)},
		{2, two, adds(9), "0 load c0: 2; 0 add c1 1: 2", full},
		{2, []call{adds(7), adds(8), adds(9), adds(9)}, adds(9), "0 load c0: 2; 0 add c1 1: 4", full},
		{2, []call{closes}, adds(9), "0 load c0: -1", gone},
		{2, []call{adds(7), adds(8), adds(9), closes}, adds(9), "0 load c0: -1", gone},
		{0, nil, adds(9), "0 load c0: 0; 0 add c1 1: 0", full},
		{0, []call{adds(9)}, adds(9), "0 load c0: 0; 0 add c1 1: 1", full},
		{0, []call{closes}, adds(9), "0 load c0: -1", gone},
		{4096, fills(4095), adds(9), "0 load c0: 4095; 0 add c1 1: 4095; 0 cas c0 4095 4096: 4095 ok", at(4096)},
		{4096, fills(4096), adds(9), "0 load c0: 4096; 0 add c1 1: 4096", full},
		{2, nil, closes, "0 swap c0 -1: 0", all()},
		{2, one, closes, "0 swap c0 -1: 1", all(7)},
		{2, two, closes, "0 swap c0 -1: 2", all(7, 8)},
		{2, []call{adds(7), closes}, closes, "0 swap c0 -1: -1", gone},
		{0, nil, closes, "0 swap c0 -1: 0", all()},
		{0, []call{closes}, closes, "0 swap c0 -1: -1", gone},
		{2, nil, looks, "0 load c0: 0", all()},
		{2, one, looks, "0 load c0: 1", all(7)},
		{2, two, looks, "0 load c0: 2", all(7, 8)},
		{2, []call{adds(7), closes}, looks, "0 load c0: -1", ended},
		{0, nil, looks, "0 load c0: 0", all()},
		{0, []call{closes}, looks, "0 load c0: -1", ended},
	} {
		l := newList(row.most)
		makes(l, nil, row.first...)
		report, got := alone(l, row.c)
		if log := aid.Texts(report.Log); log != row.log || got[0] != row.want || report.End != api.Over {
			t.Errorf("P9.2 to P9.4: %+v behind %d calls, of %d places:\n got %v: %s\nwant %v: %s", row.c, len(row.first), row.most, got[0], log, row.want, row.log)
		}
	}
}

// TestFreeAlone: random calls of one goroutine by threads that do not live, now and then by one that does, held against a plain list.
func TestFreeAlone(t *testing.T) {
	threads := aid.FreeThreads()
	met := map[string]int{}
	for seed := range int64(4000) {
		r := rand.New(rand.NewSource(seed))
		as := plain{most: r.Intn(20)}
		l := newList(as.most)
		for range 40 {
			c := call{op: aid.Some(r.Intn, []int{add, add, add, look, look}), v: aid.Some(r.Intn, aid.Values())}
			if r.Intn(25) == 0 {
				c = closes
			}
			var got, want answer
			as, want = does(as, c)
			if r.Intn(4) == 0 {
				_, x := alone(l, c)
				got = x[0]
			} else {
				got = do(l, aid.Some(r.Intn, threads), c)
			}
			if got != want {
				t.Fatalf("P9.2 to P9.4: seed %d: %+v answers %v, not %v: %+v", seed, c, got, want, as)
			}
			switch what := []string{"Add", "Close", "Each"}[c.op]; {
			case want == full:
				met[what+": full"]++
			case want == gone || want == ended:
				met[what+": closed"]++
			default:
				met[what+": done"]++
			}
		}
		if calls := tells(as.most); !asPlain(as, calls, makes(l, nil, calls...)) {
			t.Fatalf("P9.2 to P9.4: seed %d: at the end it is not %+v", seed, as)
		}
	}
	for _, what := range []string{"Add: done", "Add: full", "Add: closed", "Close: done", "Close: closed", "Each: done", "Each: closed"} {
		if met[what] < 1000 {
			t.Errorf("the calls are no good: %v", met)
		}
	}
}

// TestNone: lists that are none, by threads of every kind: no access.
func TestNone(t *testing.T) {
	var null *list.List[int64]
	none := answer{e: api.ErrNil}
	asks := func(who string, th *gate.Thread) {
		for what, l := range map[string]*list.List[int64]{"nil": null, "made by no call": {}, "made by new": new(list.List[int64]), "refused": newList(-1)} {
			for _, v := range aid.Values() {
				calls := []call{adds(v), looks, closes, adds(v), looks, closes} // also behind a Close that was refused
				if got := makes(l, th, calls...); !slices.Equal(got, slices.Repeat([]answer{none}, len(calls))) {
					t.Errorf("R3: %s, by %s: %v: %v", what, who, calls, got)
				}
			}
		}
	}
	for _, f := range aid.Idle(asks) {
		t.Errorf("R3: %s", f)
	}
}

// TestNotLiving: a call that is handed a thread that does not live makes no access of the thread in whose goroutine it is.
func TestNotLiving(t *testing.T) {
	for what, th := range aid.NotLiving() {
		l := newList(2)
		var got []answer
		r := gate.Run(nil, 9, func(*gate.Thread) {
			got = makes(l, th, looks, adds(5), adds(6), adds(7), looks, closes, closes, adds(8), looks)
		})
		if !slices.Equal(got, []answer{all(), at(1), at(2), full, all(5, 6), all(5, 6), gone, gone, ended}) || len(r.Log) != 0 || r.End != api.Over {
			t.Errorf("P9.2 to P9.4: %s: %v, %+v", what, got, r)
		}
	}
}

// TestRefused: what is refused changes nothing but the count of places that are given out; and that not behind a Close.
func TestRefused(t *testing.T) {
	for _, most := range []int{0, 1, 2, 64, api.MaxNodes} {
		l := newList(most)
		on := makes(l, nil, append(fills(most), looks)...)[most]
		for i := range int64(300) {
			r, got := alone(l, adds(i), looks)
			if len(r.Log) != 3 || r.Log[1].Was != int64(most)+i || !slices.Equal(got, []answer{full, on}) {
				t.Fatalf("P9.2: of %d places: the Add number %d too many: %v: %s", most, i, got, aid.Texts(r.Log))
			}
		}
		if got := makes(l, nil, closes)[0]; got != on {
			t.Fatalf("P9.3: of %d places: %v, not %v", most, got, on)
		}
		for range 300 {
			r, got := alone(l, adds(5), closes, looks)
			if aid.Texts(r.Log) != "0 load c0: -1; 0 swap c0 -1: -1; 0 load c0: -1" || !slices.Equal(got, []answer{gone, gone, ended}) {
				t.Fatalf("P9.2 to P9.4: of %d places, closed: %v: %s", most, got, aid.Texts(r.Log))
			}
		}
	}
}

// TestEachIsItsOwn: what is done to one list is not seen in others.
func TestEachIsItsOwn(t *testing.T) {
	x, y, z := newList(3), newList(3), newList(3)
	makes(x, nil, adds(1), adds(2))
	makes(y, nil, adds(3), closes)
	for what, l := range map[string]*list.List[int64]{"made ahead": z, "made behind": newList(3)} {
		calls := tells(3)
		if _, got := alone(l, calls...); !asPlain(plain{most: 3}, calls, got) {
			t.Errorf("P9.1: %s: %v", what, got)
		}
	}
	if got := makes(x, nil, looks, adds(4), adds(5), closes); !slices.Equal(got, []answer{all(1, 2), at(3), full, all(1, 2, 4)}) {
		t.Errorf("P9.1: %v", got)
	}
}
