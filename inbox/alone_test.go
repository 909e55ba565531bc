package inbox_test

import (
	"math/rand"
	"slices"
	"testing"

	"treadle/aid"
	"treadle/api"
	"treadle/gate"
	"treadle/inbox"
)

// TestExamples: rows of calls by one, by each thread that does not live, and by one that does.
func TestExamples(t *testing.T) {
	for _, f := range aid.By(func(who string, th *gate.Thread) { examples(t, who, th) }) {
		t.Errorf("R1: %s", f)
	}
}

func examples(t *testing.T, who string, th *gate.Thread) {
	for _, row := range []struct {
		most  int
		calls []call
		want  []answer
	}{
		{2, []call{puts(7), puts(8), puts(9), asks, takes, takes, asks}, []answer{at(1), at(2), full, at(2), all(7, 8), all(), at(2)}}, // the chapter's
		{2, []call{takes, asks}, []answer{all(), at(0)}},
		{2, []call{puts(7), takes, puts(8), takes, puts(9), takes, asks}, []answer{at(1), all(7), at(2), all(8), full, all(), at(2)}},
		{1, []call{asks, puts(7), asks, puts(8), asks, takes, puts(9), takes, asks}, []answer{at(0), at(1), at(1), full, at(1), all(7), full, all(), at(1)}},
		{9, []call{puts(5), puts(5), takes, puts(5), puts(6), puts(5), asks, takes, asks}, []answer{at(1), at(2), all(5, 5), at(3), at(4), at(5), at(5), all(5, 6, 5), at(5)}},
		{9, []call{takes, takes, puts(0), takes, takes}, []answer{all(), all(), at(1), all(0), all()}},
	} {
		if got := makes(newInbox(row.most), th, row.calls...); !slices.Equal(got, row.want) {
			t.Errorf("P22.2 to P22.4: by %s: of %d items %v: %v, not %v", who, row.most, row.calls, got, row.want)
		}
	}
}

// isMade: whether New makes one of so many items; the error is told beside none.
func isMade[T any](t *testing.T, most int) bool {
	t.Helper()
	b, e := inbox.New[T](most)
	if (b != nil) != (e == api.OK) || e != api.OK && e != api.ErrArg {
		t.Errorf("P22.1, R2: of %d: one is made: %v, %d", most, b != nil, e)
	}
	return b != nil
}

// TestHowMany: of how many items there are inboxes, of whatever type.
func TestHowMany(t *testing.T) {
	for _, n := range aid.Sizes() {
		want := n >= 1 && n <= 4096
		if isMade[int64](t, n) != want || isMade[string](t, n) != want || isMade[struct{}](t, n) != want {
			t.Errorf("P22.1: of %d", n)
		}
	}
}

// TestEachSize: an inbox of each size takes so many items, and not one more, whether they are taken or not.
func TestEachSize(t *testing.T) {
	for n := 1; n <= api.MaxTasks; n++ {
		b := newInbox(n)
		var want []int64
		between := n/2 + n%3 // when there is a Take in between
		for i := range n {
			if i == between {
				if row := b.Take(nil); !slices.Equal(row, want) {
					t.Fatalf("P22.3: of %d items: %d values, not %d", n, len(row), len(want))
				}
				want = nil
			}
			v := int64(7*i - 9)
			want = append(want, v)
			if k, e := b.Put(nil, v); k != i+1 || e != api.OK || b.Begun(nil) != i+1 {
				t.Fatalf("P22.2, P22.4: of %d items: the Put number %d: %d, %d; begun %d", n, i, k, e, b.Begun(nil))
			}
		}
		for range 3 {
			if k, e := b.Put(nil, -1); k != 0 || e != api.ErrFull || b.Begun(nil) != n {
				t.Fatalf("P22.2, P22.4: of %d items: a Put too many: %d, %d; begun %d", n, k, e, b.Begun(nil))
			}
		}
		if row := b.Take(nil); !slices.Equal(row, want) {
			t.Fatalf("P22.3: of %d items: %d values, not %d", n, len(row), len(want))
		}
		if row := b.Take(nil); len(row) != 0 {
			t.Fatalf("P22.3: of %d items: %d values twice", n, len(row))
		}
		if k, e := b.Put(nil, -1); k != 0 || e != api.ErrFull {
			t.Fatalf("P22.2: of %d items, all of which are taken: %d, %d", n, k, e)
		}
	}
}

// TestNew: what the cells hold at first, and all that becomes of them.
func TestNew(t *testing.T) {
	for _, most := range []int{1, 2, 3, 4, 63, 64, 65, 255, 256, 257, 1000, api.MaxTasks - 1, api.MaxTasks} {
		w := newWorld(most, nil, [][]call{tells(most)})
		r := w.run(t, nil, api.MaxTurns)
		if w.held[lastCell] != 0 || w.held[headCell] != 0 || r.Turns != 3+3*most+1+3+1+1 || t.Failed() {
			t.Fatalf("P22.1 to P22.4: of %d items: %d turns", most, r.Turns)
		}
	}
}

// TestNewMakesNoAccess: whoever calls it.
func TestNewMakesNoAccess(t *testing.T) {
	for _, f := range aid.Idle(func(who string, _ *gate.Thread) {
		for most, want := range map[int]bool{-1: false, 0: false, 1: true, 4096: true, 4097: false} {
			if isMade[int](t, most) != want {
				t.Errorf("P22.1: by %s: of %d", who, most)
			}
		}
	}) {
		t.Errorf("P22.1: %s", f)
	}
}

// TestSteps: of each call, where nobody else goes between them.
func TestSteps(t *testing.T) {
	one, two := []call{puts(7)}, []call{puts(7), puts(8)}
	for _, row := range []struct {
		most  int
		first []call // free, ahead of it
		c     call
		log   string
		want  answer
	}{
		{2, nil, puts(7), "0 add c0 1: 0; 0 load c1: 0; 0 cas c1 0 1: 0 ok", at(1)},
		{2, one, puts(7), "0 add c0 1: 1; 0 load c1: 1; 0 cas c1 1 2: 1 ok", at(2)},
		{2, []call{puts(7), takes}, puts(9), "0 add c0 1: 1; 0 load c1: 0; 0 cas c1 0 2: 0 ok", at(2)},
		{2, two, puts(9), "0 add c0 1: 2", full},
		{2, append(two, takes), puts(9), "0 add c0 1: 2", full},
		{2, append(two, puts(9), puts(9)), puts(9), "0 add c0 1: 4", full},
		{2, append(two, puts(9), puts(9), asks, takes, asks), puts(9), "0 add c0 1: 4", full}, // who asks, or takes, changes no number
		{1, nil, puts(9), "0 add c0 1: 0; 0 load c1: 0; 0 cas c1 0 1: 0 ok", at(1)},
		{1, one, puts(9), "0 add c0 1: 1", full},
		{1, []call{takes, asks}, puts(9), "0 add c0 1: 0; 0 load c1: 0; 0 cas c1 0 1: 0 ok", at(1)},
		{4096, fills(4095), puts(9), "0 add c0 1: 4095; 0 load c1: 4095; 0 cas c1 4095 4096: 4095 ok", at(4096)},
		{4096, append(fills(4095), takes), puts(9), "0 add c0 1: 4095; 0 load c1: 0; 0 cas c1 0 4096: 0 ok", at(4096)},
		{4096, fills(4096), puts(9), "0 add c0 1: 4096", full},
		{2, nil, takes, "0 swap c0 0: 0", all()},
		{2, one, takes, "0 swap c0 0: 1", all(7)},
		{2, two, takes, "0 swap c0 0: 2", all(7, 8)},
		{2, append(two, puts(9)), takes, "0 swap c0 0: 2", all(7, 8)},
		{2, append(two, takes), takes, "0 swap c0 0: 0", all()},
		{2, []call{puts(7), takes, puts(8)}, takes, "0 swap c0 0: 2", all(8)},
		{2, nil, asks, "0 load c0: 0", at(0)},
		{2, one, asks, "0 load c0: 1", at(1)},
		{2, []call{puts(7), takes}, asks, "0 load c0: 1", at(1)},
		{2, two, asks, "0 load c0: 2", at(2)},
		{2, append(two, puts(9)), asks, "0 load c0: 3", at(2)},
		{2, append(two, puts(9), puts(9), takes), asks, "0 load c0: 4", at(2)},
		{4096, fills(4095), asks, "0 load c0: 4095", at(4095)},
		{4096, fills(4096), asks, "0 load c0: 4096", at(4096)},
		{4096, fills(4097), asks, "0 load c0: 4097", at(4096)},
	} {
		b := newInbox(row.most)
		makes(b, nil, row.first...)
		report, got := alone(b, row.c)
		if log := aid.Texts(report.Log); log != row.log || got[0] != row.want || report.End != api.Over {
			t.Errorf("P22.2 to P22.4: %+v behind %d calls, of %d items:\n got %v: %s\nwant %v: %s", row.c, len(row.first), row.most, got[0], log, row.want, row.log)
		}
	}
}

// TestShortRows: all short rows of calls, by one that lives, and free.
func TestShortRows(t *testing.T) {
	for _, l := range aid.Rows([]call{puts(7), puts(8), takes, asks}, 6) {
		for most := 1; most <= 4; most++ {
			as := plain{most: most}
			if got := makes(newInbox(most), nil, l...); !asPlain(as, l, got) {
				t.Fatalf("P22.2 to P22.4: of %d items %v: %v", most, l, got)
			}
			if r, got := alone(newInbox(most), l...); !asPlain(as, l, got) || r.End != api.Over {
				t.Fatalf("P22.2 to P22.4: of %d items %v, by one that lives: %v", most, l, got)
			}
		}
	}
}

// TestFreeAlone: random calls of one goroutine by threads that do not live, now and then by one that does, held against a plain inbox.
func TestFreeAlone(t *testing.T) {
	threads := aid.FreeThreads()
	met := map[string]int{}
	for seed := range int64(4000) {
		r := rand.New(rand.NewSource(seed))
		as := plain{most: 1 + r.Intn(25)}
		b := newInbox(as.most)
		for range 40 {
			c := call{op: aid.Some(r.Intn, []int{put, put, put, take, begun}), v: aid.Some(r.Intn, aid.Values())}
			var got, want answer
			as, want = does(as, c)
			if r.Intn(4) == 0 {
				_, x := alone(b, c)
				got = x[0]
			} else {
				got = do(b, aid.Some(r.Intn, threads), c)
			}
			if got != want {
				t.Fatalf("P22.2 to P22.4: seed %d: %+v answers %v, not %v: %+v", seed, c, got, want, as)
			}
			met[[]string{"Put: ", "Take: ", "Begun: "}[c.op]+map[bool]string{true: "done", false: "nothing"}[got.n+len(got.row) > 0]]++
		}
		if calls := tells(as.most); !asPlain(as, calls, makes(b, nil, calls...)) {
			t.Fatalf("P22.2 to P22.4: seed %d: at the end it is not %+v", seed, as)
		}
	}
	for _, what := range []string{"Put: done", "Put: nothing", "Take: done", "Take: nothing", "Begun: done", "Begun: nothing"} {
		if met[what] < 1000 {
			t.Errorf("the calls are no good: %v", met)
		}
	}
}

// TestNone: inboxes that are none, by threads of every kind: no access.
func TestNone(t *testing.T) {
	var null *inbox.Inbox[int64]
	refused, _ := inbox.New[int64](0)
	asked := func(who string, th *gate.Thread) {
		for what, b := range map[string]*inbox.Inbox[int64]{"nil": null, "made by no call": {}, "made by new": new(inbox.Inbox[int64]), "refused": refused} {
			for _, v := range aid.Values() {
				calls := []call{puts(v), takes, asks, puts(v), puts(v), takes, asks} // also behind a Put that was refused
				want := []answer{{e: api.ErrNil}, {}, {}, {e: api.ErrNil}, {e: api.ErrNil}, {}, {}}
				if got := makes(b, th, calls...); !slices.Equal(got, want) {
					t.Errorf("R3: %s, by %s: %v: %v", what, who, calls, got)
				}
			}
		}
	}
	for _, f := range aid.Idle(asked) {
		t.Errorf("R3: %s", f)
	}
}

// TestNotLiving: a call that is handed a thread that does not live makes no access of the thread in whose goroutine it is.
func TestNotLiving(t *testing.T) {
	calls := []call{takes, puts(5), asks, puts(6), puts(7), asks, takes, takes, puts(8), asks}
	want := []answer{all(), at(1), at(1), at(2), full, at(2), all(5, 6), all(), full, at(2)}
	for what, th := range aid.NotLiving() {
		b := newInbox(2)
		var got []answer
		r := gate.Run(nil, 9, func(*gate.Thread) { got = makes(b, th, calls...) })
		if !slices.Equal(got, want) || len(r.Log) != 0 || r.End != api.Over {
			t.Errorf("P22.2 to P22.4: %s: %v, %+v", what, got, r)
		}
	}
}

// TestRefused: what is refused changes nothing but how many numbers are used up; and there are no more items for good.
func TestRefused(t *testing.T) {
	for _, most := range []int{1, 2, 64, api.MaxTasks} {
		b := newInbox(most)
		makes(b, nil, fills(most)...)
		row := aid.Line(b.Take(nil))
		for i := range int64(300) {
			r, got := alone(b, puts(i), asks, takes)
			if len(r.Log) != 3 || r.Log[0].Was != int64(most)+i || !slices.Equal(got, []answer{full, at(most), all()}) {
				t.Fatalf("P22.2 to P22.4: of %d items: the Put number %d too many: %v: %s", most, i, got, aid.Texts(r.Log))
			}
		}
		full := newInbox(most)
		makes(full, nil, fills(most)...)
		makes(full, nil, fills(300)...)
		if got := aid.Line(full.Take(nil)); got != row {
			t.Fatalf("P22.3: of %d items: %s, not %s", most, got, row)
		}
	}
}

// TestManyRefused: however many numbers are used up, there are no more items.
func TestManyRefused(t *testing.T) {
	b := newInbox(2)
	for i := range int64(1 << 18) {
		want := []answer{full, at(2), all()}
		if i < 2 {
			want = []answer{at(int(i + 1)), at(int(i + 1)), all(i)}
		}
		if got := makes(b, nil, puts(i), asks, takes); !slices.Equal(got, want) {
			t.Fatalf("P22.2 to P22.4: the Put number %d: %v", i, got)
		}
	}
	if r, got := alone(b, puts(7), asks); aid.Texts(r.Log) != "0 add c0 1: 262144; 0 load c0: 262145" || !slices.Equal(got, []answer{full, at(2)}) {
		t.Errorf("P22.2 to P22.4: behind many Puts: %v: %s", got, aid.Texts(r.Log))
	}
}

// TestEachIsItsOwn: what is done to one inbox is not seen in others.
func TestEachIsItsOwn(t *testing.T) {
	x, y, z := newInbox(3), newInbox(3), newInbox(3)
	makes(x, nil, puts(1), puts(2))
	makes(y, nil, puts(3), takes)
	for what, b := range map[string]*inbox.Inbox[int64]{"made ahead": z, "made behind": newInbox(3)} {
		calls := tells(3)
		if _, got := alone(b, calls...); !asPlain(plain{most: 3}, calls, got) {
			t.Errorf("P22.1: %s: %v", what, got)
		}
	}
	if got := makes(x, nil, asks, puts(4), puts(5), takes); !slices.Equal(got, []answer{at(2), at(3), full, all(1, 2, 4)}) {
		t.Errorf("P22.1: %v", got)
	}
}
