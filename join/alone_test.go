package join_test

import (
	"io"
	"math"
	"math/rand"
	"slices"
	"strconv"
	"strings"
	"testing"

	"treadle/aid"
	"treadle/api"
	"treadle/fault"
	"treadle/future"
	"treadle/gate"
	"treadle/join"
)

// failed: an error with this code.
func failed(code int64) error { return &fault.Failed{Code: code} }

// crowd: calls that give one future so many functions.
func crowd(n, of int) []call { return slices.Repeat([]call{thens(of, quiet("f"))}, n) }

// TestExamples: the chapter's table.
func TestExamples(t *testing.T) {
	by(t, func(who string, th *gate.Thread) {
		for _, row := range []struct {
			calls []call
			want  string
		}{
			{[]call{alls(0, 1), completes(1, 2, nil), peeks(3), completes(0, 1, nil), asks(3), awaits(3)}, "all(0,1):#3 complete1:yes peek3:none complete0:yes values3:[1,2] await3:2"},
			{[]call{alls(0, 1, 2), completes(2, 7, failed(9)), completes(1, 7, failed(8)), completes(0, 1, nil), awaits(3), asks(3)}, "all(0,1,2):#3 complete2:yes complete1:yes complete0:yes await3:1:_failed_8 values3:1:_failed_8"},
			{[]call{alls(), awaits(3), asks(3)}, "all():#3 await3:0 values3:[]"},
			{[]call{somes(0, 1), completes(0, 5, failed(7)), peeks(3), completes(1, 3, nil), awaits(3)}, "any(0,1):#3 complete0:yes peek3:none complete1:yes await3:3"},
			{[]call{somes(0, 1), completes(1, 5, failed(8)), completes(0, 5, failed(7)), awaits(3)}, "any(0,1):#3 complete1:yes complete0:yes await3:0:_failed_7"},
			{[]call{quorums(2, 0, 1, 2), completes(2, 1, nil), completes(0, 1, failed(7)), peeks(3), completes(1, 1, nil), awaits(3)}, "quorum2(0,1,2):#3 complete2:yes complete0:yes peek3:none complete1:yes await3:2"},
			{[]call{quorums(2, 0, 1, 2), completes(0, 1, failed(7)), peeks(3), completes(1, 1, failed(7)), awaits(3)}, "quorum2(0,1,2):#3 complete0:yes peek3:none complete1:yes await3:failed_2"},
			{[]call{somes(), quorums(-1, 0), quorums(2, 0), quorums(0), awaits(3), alls(-1)}, "any():ErrNone quorum-1(0):ErrArg quorum2(0):ErrArg quorum0():#3 await3:0 all(-1):ErrNil"},
		} {
			w := ours(3)
			w.awake = true
			if got := w.makes(th, row.calls...); got != row.want || len(w.follows(true)) != 0 {
				t.Errorf("P16.1 to P16.4: by %s: %v:\n got %s\nwant %s: %v", who, row.calls, got, row.want, w.follows(true))
			}
		}
	})
}

// TestSteps: of each call, where nobody else goes between them.
func TestSteps(t *testing.T) {
	const hangs0, hangs1 = "0 load c0: 0; 0 add c1 1: 0; 0 cas c0 0 1: 0 ok", "0 load c2: 0; 0 add c3 1: 0; 0 cas c2 0 1: 0 ok"
	const filled, fell = "0 cas c0 0 1: 0 ok; 0 store c0 2: 1; 0 swap c1 -1: 0", "0 cas c0 0 1: 0 ok; 0 store c0 3: 1; 0 swap c1 -1: 0"
	const fills, falls = "0 cas c0 0 1: 0 ok; 0 store c0 2: 1; 0 swap c1 -1: 1; ", "0 cas c0 0 1: 0 ok; 0 store c0 3: 1; 0 swap c1 -1: 1; "
	const first, then = "0 cas c2 0 1: 0 ok; 0 store c2 2: 1; 0 swap c3 -1: 0", "0 cas c3 0 1: 0 ok; 0 store c3 2: 1; 0 swap c4 -1: 0"
	const firstFell, thenFell = "0 cas c2 0 1: 0 ok; 0 store c2 3: 1; 0 swap c3 -1: 0", "0 cas c3 0 1: 0 ok; 0 store c3 3: 1; 0 swap c4 -1: 0"
	full := crowd(64, 1)
	done0, done1, fell0, fell1 := completes(0, 5, nil), completes(1, 6, nil), completes(0, 5, io.EOF), completes(1, 6, io.ErrNoProgress)
	for _, row := range []struct {
		first []call
		calls []call
		log   string
		want  string
	}{
		{nil, []call{alls(0, 1)}, hangs0 + "; " + hangs1, "all(0,1):#3"},
		{nil, []call{alls()}, filled, "all():#3"},
		{nil, []call{alls(1)}, hangs0, "all(1):#3"},
		{nil, []call{alls(0, 0)}, hangs0 + "; 0 load c0: 1; 0 add c1 1: 1; 0 cas c0 1 2: 1 ok", "all(0,0):#3"},
		{[]call{done0, done1}, []call{alls(0, 1)}, "0 load c0: -1; 0 add c1 -1: 2; 0 load c2: -1; 0 add c1 -1: 1; " + then, "all(0,1):#3"},
		{[]call{done0, fell1}, []call{alls(1, 0)}, "0 load c0: -1; 0 add c1 -1: 2; 0 load c2: -1; 0 add c1 -1: 1; " + thenFell, "all(1,0):#3"},
		{[]call{done0}, []call{alls(0, 1)}, "0 load c0: -1; 0 add c1 -1: 2; " + hangs1, "all(0,1):#3"},
		{[]call{done0}, []call{alls(0, 0)}, "0 load c0: -1; 0 add c1 -1: 2; 0 load c0: -1; 0 add c1 -1: 1; " + first, "all(0,0):#3"},
		{[]call{claims(0)}, []call{alls(0)}, hangs0, "all(0):#3"},
		{[]call{alls(0, 1)}, []call{done0}, fills + "0 add c2 -1: 2", "complete0:yes"},
		{[]call{alls(0, 1)}, []call{fell0}, falls + "0 add c2 -1: 2", "complete0:yes"},
		{[]call{alls(0, 1), done0}, []call{done1}, fills + "0 add c2 -1: 1; " + then, "complete1:yes"},
		{[]call{alls(0, 1), done0}, []call{fell1}, falls + "0 add c2 -1: 1; " + thenFell, "complete1:yes"},
		{[]call{alls(0, 1), fell1}, []call{done0}, fills + "0 add c2 -1: 1; " + thenFell, "complete0:yes"},
		{[]call{alls(0, 0)}, []call{done0}, "0 cas c0 0 1: 0 ok; 0 store c0 2: 1; 0 swap c1 -1: 2; 0 add c2 -1: 2; 0 add c2 -1: 1; " + then, "complete0:yes"},
		{[]call{alls(0), completes(3, 7, nil)}, []call{done0}, fills + "0 add c2 -1: 1; 0 cas c3 0 1: 2 no", "complete0:yes"},
		{[]call{alls(0), thens(3, busy("A", adds()))}, []call{done0}, fills + "0 add c2 -1: 1; 0 cas c3 0 1: 0 ok; 0 store c3 2: 1; 0 swap c4 -1: 1; 0 add c5 1: 0", "A:1( add:1 ) complete0:yes"},
		{nil, []call{alls(-1), alls(-2), alls(0, -1), alls(0, -2), alls(-1, 0)}, "", "all(-1):ErrNil all(-2):ErrNil all(0,-1):ErrNil all(0,-2):ErrNil all(-1,0):ErrNil"},
		{full, []call{alls(0, 1, 2)}, hangs0 + "; 0 load c2: 64; 0 add c3 1: 64", "all(0,1,2):ErrFull"},
		{full, []call{alls(1, 0)}, "0 load c0: 64; 0 add c1 1: 64", "all(1,0):ErrFull"},
		{full, []call{alls(0, 1, -1)}, "", "all(0,1,-1):ErrNil"},
		{append(full, alls(0, 1, 2)), []call{done0, completes(2, 7, nil)}, fills + "0 add c2 -1: 3; 0 cas c3 0 1: 0 ok; 0 store c3 2: 1; 0 swap c4 -1: 0", "complete0:yes complete2:yes"},
		{append(full, done0), []call{alls(0, 1)}, "0 load c0: -1; 0 add c1 -1: 2; 0 load c2: 64; 0 add c3 1: 64", "all(0,1):ErrFull"},
		{crowd(63, 0), []call{alls(0, 0)}, "0 load c0: 63; 0 add c1 1: 63; 0 cas c0 63 64: 63 ok; 0 load c0: 64; 0 add c1 1: 64", "all(0,0):ErrFull"},
		{[]call{alls(0), done0}, []call{asks(3), awaits(3)}, "0 load c0: 2; 0 load c0: 2", "values3:[5] await3:1"},
		{[]call{alls(1, 0, 1), done0, done1}, []call{asks(3)}, "0 load c0: 2", "values3:[6,5,6]"},
		{[]call{alls(0, 1), done1, fell0}, []call{asks(3)}, "0 load c0: 3", "values3:0:_EOF"},
		{[]call{alls()}, []call{asks(3)}, "0 load c0: 2", "values3:[]"},
		{nil, []call{asks(3), asks(0)}, "", "values3:errno:2 values0:errno:2"},

		{nil, []call{somes(0, 1)}, hangs0 + "; " + hangs1, "any(0,1):#3"},
		{[]call{done0, done1}, []call{somes(0, 1)}, "0 load c0: -1; 0 cas c1 0 1: 0 ok; 0 store c1 2: 1; 0 swap c2 -1: 0; 0 load c3: -1; 0 cas c1 0 1: 2 no", "any(0,1):#3"},
		{[]call{fell0, done1}, []call{somes(0, 1)}, "0 load c0: -1; 0 add c1 1: 0; 0 load c2: -1; " + then, "any(0,1):#3"},
		{[]call{fell0, fell1}, []call{somes(0, 1)}, "0 load c0: -1; 0 add c1 1: 0; 0 load c2: -1; 0 add c1 1: 1; " + thenFell, "any(0,1):#3"},
		{[]call{fell0}, []call{somes(0, 0)}, "0 load c0: -1; 0 add c1 1: 0; 0 load c0: -1; 0 add c1 1: 1; " + firstFell, "any(0,0):#3"},
		{[]call{somes(0, 1)}, []call{done0}, fills + first, "complete0:yes"},
		{[]call{somes(0, 1)}, []call{fell1}, falls + "0 add c2 1: 0", "complete1:yes"},
		{[]call{somes(0, 1), done0}, []call{done1}, fills + "0 cas c2 0 1: 2 no", "complete1:yes"},
		{[]call{somes(0, 1), done0}, []call{fell1}, falls + "0 add c2 1: 0", "complete1:yes"},
		{[]call{somes(0, 1), fell0}, []call{done1}, fills + first, "complete1:yes"},
		{[]call{somes(0, 1), fell1}, []call{fell0}, falls + "0 add c2 1: 1; " + thenFell, "complete0:yes"},
		{[]call{somes(0), completes(3, 7, nil)}, []call{fell0}, falls + "0 add c2 1: 0; 0 cas c3 0 1: 2 no", "complete0:yes"},
		{[]call{somes(0), claims(3)}, []call{done0}, fills + "0 cas c2 0 1: 1 no", "complete0:yes"},
		{nil, []call{somes(), somes(-1), somes(-2), somes(0, -1), somes(0, 1, -2)}, "", "any():ErrNone any(-1):ErrNil any(-2):ErrNil any(0,-1):ErrNil any(0,1,-2):ErrNil"},
		{full, []call{somes(0, 1, 2)}, hangs0 + "; 0 load c2: 64; 0 add c3 1: 64", "any(0,1,2):ErrFull"},
		{append(full, somes(0, 1)), []call{done0}, fills + first, "complete0:yes"},
		{append(full, somes(0, 1)), []call{fell0}, falls + "0 add c2 1: 0", "complete0:yes"},
		{append(full, done0), []call{somes(0, 1)}, "0 load c0: -1; 0 cas c1 0 1: 0 ok; 0 store c1 2: 1; 0 swap c2 -1: 0; 0 load c3: 64; 0 add c4 1: 64", "any(0,1):ErrFull"},

		{nil, []call{quorums(0, 0, 1)}, filled, "quorum0(0,1):#3"},
		{nil, []call{quorums(0)}, filled, "quorum0():#3"},
		{[]call{fell0}, []call{quorums(0, 0)}, filled, "quorum0(0):#3"},
		{full, []call{quorums(0, 1)}, filled, "quorum0(1):#3"},
		{[]call{quorums(0, 0)}, []call{done0}, filled, "complete0:yes"},
		{nil, []call{quorums(2, 0, 1)}, hangs0 + "; " + hangs1, "quorum2(0,1):#3"},
		{[]call{done0, done1}, []call{quorums(1, 0, 1)}, "0 load c0: -1; 0 add c1 1: 0; " + first + "; 0 load c4: -1; 0 add c1 1: 1", "quorum1(0,1):#3"},
		{[]call{done0, fell1}, []call{quorums(2, 1, 0)}, "0 load c0: -1; 0 add c1 1: 0; " + firstFell + "; 0 load c4: -1; 0 add c5 1: 0", "quorum2(1,0):#3"},
		{[]call{quorums(2, 0, 1, 2)}, []call{done0}, fills + "0 add c2 1: 0", "complete0:yes"},
		{[]call{quorums(2, 0, 1, 2), done0}, []call{done1}, fills + "0 add c2 1: 1; " + then, "complete1:yes"},
		{[]call{quorums(2, 0, 1, 2), done0, done1}, []call{completes(2, 7, nil)}, fills + "0 add c2 1: 2", "complete2:yes"},
		{[]call{quorums(2, 0, 1, 2), done0, done1}, []call{completes(2, 7, io.EOF)}, falls + "0 add c2 1: 0", "complete2:yes"},
		{[]call{quorums(2, 0, 1, 2), done0}, []call{fell1}, falls + "0 add c2 1: 0", "complete1:yes"},
		{[]call{quorums(2, 0, 1, 2), fell0}, []call{fell1}, falls + "0 add c2 1: 1; " + thenFell, "complete1:yes"},
		{[]call{quorums(2, 0, 1, 2), fell0, fell1}, []call{completes(2, 7, io.EOF)}, falls + "0 add c2 1: 2", "complete2:yes"},
		{[]call{quorums(1, 0), completes(3, 7, nil)}, []call{fell0}, falls + "0 add c2 1: 0; 0 cas c3 0 1: 2 no", "complete0:yes"},
		{nil, []call{quorums(-1, 0), quorums(2, 0), quorums(1), quorums(math.MinInt, 0), quorums(math.MaxInt, 0, 1), quorums(-1)}, "", "quorum-1(0):ErrArg quorum2(0):ErrArg quorum1():ErrArg quorum" + strconv.Itoa(math.MinInt) + "(0):ErrArg quorum" + strconv.Itoa(math.MaxInt) + "(0,1):ErrArg quorum-1():ErrArg"},
		{nil, []call{quorums(1, -1), quorums(-1, -1), quorums(9, 0, -2), quorums(0, -1), quorums(0, 0, -2)}, "", "quorum1(-1):ErrNil quorum-1(-1):ErrNil quorum9(0,-2):ErrNil quorum0(-1):ErrNil quorum0(0,-2):ErrNil"},
		{full, []call{quorums(2, 0, 1, 2)}, hangs0 + "; 0 load c2: 64; 0 add c3 1: 64", "quorum2(0,1,2):ErrFull"},
		{full, []call{quorums(3, 1, -1), quorums(3, 1)}, "", "quorum3(1,-1):ErrNil quorum3(1):ErrArg"},
		{append(full, quorums(1, 0, 1)), []call{done0}, fills + "0 add c2 1: 0; " + then, "complete0:yes"},
		{append(full, quorums(2, 0, 1)), []call{fell0}, falls + "0 add c2 1: 0; " + thenFell, "complete0:yes"},
	} {
		w := ours(3, slices.Clip(row.first)...)
		report, got := w.one(row.calls...)
		if log := aid.Texts(report.Log); log != row.log || got != row.want || report.End != api.Over || len(w.follows(true)) != 0 {
			t.Errorf("P16.1 to P16.4: %v behind %v:\n got %s: %s\nwant %s: %s: %v", row.calls, texts(row.first), got, log, row.want, row.log, w.follows(true))
		}
	}
}

// TestSleeps: who asks for the values of a joint whose future nobody fills sleeps at its state.
func TestSleeps(t *testing.T) {
	for _, row := range []struct {
		first  []call
		stands string
	}{{[]call{alls(0, 1), completes(0, 5, nil)}, "0"}, {[]call{alls(0), claims(3)}, "1"}, {[]call{alls(0), claims(0)}, "0"}} {
		report, got := ours(3, row.first...).one(asks(3))
		if aid.Texts(report.Log) != "0 load c0: "+row.stands || aid.Texts(report.Left) != "0 park c0 "+row.stands+": "+row.stands || report.End != api.Dead || got != "" {
			t.Errorf("P16.2: behind %v: %s: %+v", row.first, got, report)
		}
	}
}

// TestOneTooMany: one future stands in for 64 functions, and not for one more; nor does it where others are among them. What was handed out ahead of the refusal goes on.
func TestOneTooMany(t *testing.T) {
	for what, joins := range map[string]func(l ...int) call{"All": alls, "Any": somes, "Quorum": func(l ...int) call { return quorums(1, l...) }} {
		sixtyfour := slices.Repeat([]int{0}, 64)
		w := ours(2)
		if got := w.alone(joins(sixtyfour...)); !strings.HasSuffix(got, ":#2") {
			t.Errorf("%s: of one 64 times: %s", what, got)
		}
		for range 3 {
			if got := w.alone(joins(1, 0), joins(0), joins(0, 1), thens(0, quiet("f"))); strings.Count(got, "ErrFull") != 4 || len(w.all) != 3 {
				t.Errorf("%s: one too many: %s", what, got)
			}
		}
		r, _ := w.one(completes(1, 4, nil), completes(0, 5, nil), peeks(2))
		want := map[string]string{"All": "peek2:64", "Any": "peek2:5", "Quorum": "peek2:1"}[what]
		if !strings.HasSuffix(w.story.String(), want) || len(w.follows(true)) != 0 || strings.Count(aid.Texts(r.Log), " swap ") != map[string]int{"All": 3, "Any": 3 + 3, "Quorum": 3 + 3}[what] {
			t.Errorf("%s: %s: %v: %s", what, w.story, w.follows(true), aid.Texts(r.Log))
		}
		w = ours(1)
		if got := w.alone(joins(slices.Repeat([]int{0}, 65)...), thens(0, quiet("f")), completes(0, 5, nil)); !strings.HasSuffix(got, ":ErrFull then0:ErrFull complete0:yes") {
			t.Errorf("%s: of one 65 times: %s", what, got)
		}
		if got := w.alone(joins(slices.Repeat([]int{0}, 65)...), peeks(1)); strings.HasSuffix(got, "none") {
			t.Errorf("%s: of one 65 times, that is filled: %s", what, got)
		}
	}
}

// TestValues: what the others come to is told by number, whatever it is; by Any it is what is told.
func TestValues(t *testing.T) {
	by(t, func(who string, th *gate.Thread) {
		v := aid.Values()
		l := make(futures, len(v))
		for i := range l {
			l[i] = future.New()
		}
		j, e := join.All(th, l...)
		for i, x := range l {
			g, f := join.Any(th, x)
			h, q := join.Quorum(th, 1, x)
			if !x.Complete(th, v[i], nil) || e != api.OK || f != api.OK || q != api.OK {
				t.Errorf("P16.1 to P16.4: by %s: %d %d %d", who, e, f, q)
				return
			}
			if a, b := aid.Told(g.Await(th)), aid.Told(h.Await(th)); a != aid.Told(v[i], nil) || b != aid.Told(1, nil) {
				t.Errorf("P16.3, P16.4: by %s: %d: %v %v", who, v[i], a, b)
			}
		}
		if got, e := j.Values(th); !slices.Equal(got, v) || e != nil || aid.Told(j.Future().Await(th)) != aid.Told(int64(len(v)), nil) {
			t.Errorf("P16.2: by %s: %v %v", who, got, e)
		}
	})
}

// wraps: whether it is told with an error, which is another one with a number.
func wraps(a aid.Answer, number int, e error) bool {
	at, is := a.E.(*fault.At)
	return is && a.V == 0 && at.Number == number && at.Err == e
}

// TestErrors: whatever error another comes to, a joint's future wraps just that one; what has an error has no value.
func TestErrors(t *testing.T) {
	by(t, func(who string, th *gate.Thread) {
		for i, e := range aid.Errors() {
			for n := range 3 {
				l := futures{future.New(), future.New(), future.New()}
				j, _ := join.All(th, l...)
				g, _ := join.Any(th, l[n], l[n])
				h, _ := join.Quorum(th, 3, l...)
				for m, x := range l {
					if m != n {
						x.Complete(th, 5, nil)
					}
				}
				l[n].Complete(th, 7, e)
				v, f := j.Values(th)
				if a := aid.Told(j.Future().Await(th)); !wraps(a, n, e) || len(v) != 0 || f != a.E {
					t.Errorf("P16.1, P16.2: the error number %d of the future %d, by %s: %v; %v %v", i, n, who, a, v, f)
				}
				a, b := aid.Told(g.Await(th)), aid.Told(h.Await(th))
				if code, is := b.E.(*fault.Failed); !wraps(a, 0, e) || !is || b.V != 0 || code.Code != 1 {
					t.Errorf("P16.3, P16.4: the error number %d, by %s: %v %v", i, who, a, b)
				}
			}
		}
		x := future.New()
		j, _ := join.All(th, x)
		g, _ := join.Any(th, x)
		h, _ := join.Quorum(th, 1, x)
		x.Complete(th, 5, aid.Awkward{io.EOF})
		for _, x := range []*future.Future{j.Future(), g} {
			_, e := x.Await(th)
			if at, is := e.(*fault.At); !is || at.Err.(aid.Awkward)[0] != io.EOF {
				t.Errorf("P16.1, P16.3: an error that is not to be asked, by %s", who)
			}
		}
		if _, e := h.Await(th); e.Error() != "failed 1" {
			t.Errorf("P16.4: an error that is not to be asked, by %s: %v", who, e)
		}
	})
}

// TestOrders: three futures that are completed in every order, with values or errors: what All and Quorum come to hangs on what they come to alone, what Any comes to is the first value, or the error of the first.
func TestOrders(t *testing.T) {
	for fails := range 8 {
		is := func(i int) aid.Answer { return aid.Told(10+int64(i), nil) }
		for i := range 3 {
			if fails>>i&1 == 1 {
				was := is
				is = func(j int) aid.Answer {
					if j == i {
						return aid.Told(0, failed(20+int64(i)))
					}
					return was(j)
				}
			}
		}
		for _, order := range [][]int{{0, 1, 2}, {0, 2, 1}, {1, 0, 2}, {1, 2, 0}, {2, 0, 1}, {2, 1, 0}} {
			orders(t, order, is)
		}
	}
}

// orders: what each kind of joint future comes to as each of three others does, in this order.
func orders(t *testing.T, order []int, is func(i int) aid.Answer) {
	t.Helper()
	w := ours(3, alls(0, 1, 2), somes(0, 1, 2), quorums(1, 0, 1, 2), quorums(2, 0, 1, 2), quorums(3, 0, 1, 2), quorums(0, 0, 1, 2))
	least, values, errs, any := 3, int64(0), int64(0), "none"
	for n, i := range order {
		a := is(i)
		if a.E != nil {
			least, errs = min(least, i), errs+1
		} else if values++; any == "none" {
			any = strconv.Itoa(10 + i)
		}
		all := "none"
		if n == 2 {
			if all = "3"; least < 3 {
				all = strconv.Itoa(least) + ":_failed_" + strconv.Itoa(20+least)
			}
		}
		if errs == 3 {
			any = "0:_failed_20"
		}
		want := "complete" + strconv.Itoa(i) + ":yes peek3:" + all + " peek4:" + any
		for k := range int64(3) {
			quorum := "none"
			if values > k {
				quorum = strconv.FormatInt(k+1, 10)
			} else if errs >= 3-k {
				quorum = "failed_" + strconv.FormatInt(3-k, 10)
			}
			want += " peek" + strconv.FormatInt(k+5, 10) + ":" + quorum
		}
		want += " peek8:0"
		if got := w.alone(completes(i, a.V, a.E), peeks(3), peeks(4), peeks(5), peeks(6), peeks(7), peeks(8)); got != want || len(w.follows(true)) != 0 {
			t.Errorf("P16.1, P16.3, P16.4: %v: behind the number %d:\n got %s\nwant %s: %v", order, n, got, want, w.follows(true))
		}
	}
}

// TestSizes: of so many futures, some of which come to errors, completed in some order.
func TestSizes(t *testing.T) {
	r := rand.New(rand.NewSource(3))
	for _, n := range []int{1, 2, 3, 63, 64, 65, 66, 127, 1000, 1 << 16} {
		for _, errs := range []int{0, 1, n / 2, n - 1, n} {
			l, want, least := make(futures, n), make([]int64, n), n
			for i := range l {
				l[i], want[i] = future.New(), r.Int63()
			}
			j, _ := join.All(nil, l...)
			g, _ := join.Any(nil, l...)
			k := 1 + r.Intn(n)
			h, _ := join.Quorum(nil, k, l...)
			first := int64(0)
			for m, i := range r.Perm(n) {
				if _, _, done := j.Future().Peek(nil); done {
					t.Fatalf("what follows: of %d: it is filled behind %d", n, m)
				}
				if _, _, done := h.Peek(nil); done != (m-min(m, errs) >= k || min(m, errs) > n-k) {
					t.Fatalf("what follows: %d of %d: behind %d, %d of them errors: %v", k, n, m, min(m, errs), done)
				}
				if m < errs {
					least = min(least, i)
					l[i].Complete(nil, 0, failed(int64(i)))
				} else if l[i].Complete(nil, want[i], nil); m == errs {
					first = want[i]
				}
			}
			v, e := j.Values(nil)
			switch {
			case errs == 0 && (!slices.Equal(v, want) || e != nil):
				t.Errorf("P16.2: of %d: %v", n, e)
			case errs > 0 && (v != nil || e.Error() != strconv.Itoa(least)+": failed "+strconv.Itoa(least)):
				t.Errorf("P16.1: of %d, %d of them errors: %v, not %d", n, errs, e, least)
			}
			if a := aid.Told(g.Await(nil)); a != aid.Told(first, nil) && errs < n || errs == n && a.String() != "0:_failed_0" {
				t.Errorf("P16.3: of %d, %d of them errors: %v", n, errs, a)
			}
			if a := aid.Told(h.Await(nil)); n-errs >= k && a != aid.Told(int64(k), nil) || n-errs < k && a.String() != "failed_"+strconv.Itoa(n-k+1) {
				t.Errorf("P16.4: %d of %d, %d of them errors: %v", k, n, errs, a)
			}
		}
	}
}

// TestSequences: all short rows of calls, free and by a thread.
func TestSequences(t *testing.T) {
	calls := []call{
		completes(0, 1, nil), completes(1, 2, io.EOF), completes(0, 3, io.ErrNoProgress), completes(1, 4, nil), alls(0, 1), somes(1, 0), quorums(1, 1, 0), quorums(2, 0, 1), alls(2, 0, 2),
		completes(2, 5, nil), asks(2), awaits(2), thens(2, busy("A", completes(1, 6, nil), alls(1, 2), asks(3))), claims(2), somes(2, 3, 1),
	}
	for _, l := range aid.Rows(calls, 4) {
		w, as := newWorld(made, 2), newWorld(words, 2)
		want := as.alone(l...)
		if got := w.alone(l...); got != want || len(w.follows(true)) != 0 {
			t.Fatalf("P16.1 to P16.4: free: %v: %s, not %s: %v", texts(l), got, want, w.follows(true))
		}
		w = newWorld(made, 2)
		w.awake = true
		if r, got := w.one(l...); got != want || len(w.follows(true)) != 0 || r.End != api.Over {
			t.Fatalf("P16.1 to P16.4: by a thread: %v: %s, not %s: %v", texts(l), got, want, w.follows(true))
		}
	}
}

// TestRefused: what is refused for its arguments makes no access, and changes nothing: no future has a function more.
func TestRefused(t *testing.T) {
	calls := []call{
		alls(-1), alls(-2), alls(0, -1), alls(0, 1, -2), alls(1, -1, 0), somes(), somes(-1), somes(-2), somes(0, 1, -1), somes(1, -2, 0), asks(9), asks(0), asks(-2),
		quorums(-1, 0, 1), quorums(3, 0, 1), quorums(1), quorums(-1), quorums(0, 0, -1), quorums(1, 0, -2), quorums(-1, -1), quorums(9, 0, -2),
	}
	for what, first := range map[string][]call{"new": nil, "with functions": {thens(0, quiet("A")), alls(0, 1)}, "with room for one": crowd(63, 0), "full": crowd(64, 1), "filled": {completes(0, 5, nil)}, "with an error": {completes(1, 5, io.EOF)}} {
		w, as := ours(2, first...), newWorld(words, 2)
		as.alone(first...)
		for _, c := range calls {
			n := len(w.all)
			report, got := w.one(c)
			if len(report.Log) != 0 || report.End != api.Over || c.op != values && got != as.makes(nil, c) || got != w.makes(nil, c) || len(w.all) != n || !strings.Contains(got, ":Err") && c.op != values {
				t.Errorf("R2: %s: %v: %s: %s", what, c, got, aid.Texts(report.Log))
			}
		}
		then := append(tells(len(w.all)), thens(0, quiet("B")), thens(1, quiet("C")))
		if got, want := w.alone(then...), as.alone(then...); got != want || len(w.follows(true)) != 0 {
			t.Errorf("R2: %s: %s, not %s: %v", what, got, want, w.follows(true))
		}
	}
}

// tells: calls that tell all of so many futures: what they came to, what they have room for, what is in them. Then they are completed.
func tells(n int) (l []call) {
	for i := range n {
		l = append(l, peeks(i), thens(i, quiet("t"+strconv.Itoa(i))))
	}
	for i := range n {
		l = append(l, completes(i, 100+int64(i), nil), peeks(i), thens(i, quiet("u"+strconv.Itoa(i))))
	}
	for i := range n {
		l = append(l, asks(i), awaits(i))
	}
	return l
}

// TestNone: joints and futures that are none, by threads of every kind: no access, and no function is handed to those that stand beside them.
func TestNone(t *testing.T) {
	var null *join.Joint
	x := future.New()
	asked := func(who string, th *gate.Thread) {
		for what, j := range map[string]*join.Joint{"nil": null, "made by no call": {}, "made by new": new(join.Joint)} {
			if l, e := j.Values(th); j.Future() != nil || l != nil || e != error(api.ErrNil) {
				t.Errorf("P16.2: %s, by %s: %v %v", what, who, l, e)
			}
		}
		for what, y := range map[string]*future.Future{"nil": nil, "made by no call": {}, "made by new": new(future.Future)} {
			for _, l := range []futures{{y}, {x, y}, {y, x}, {x, x, y, x}} {
				if j, e := join.All(th, l...); j != nil || e != api.ErrNil {
					t.Errorf("P16.1: %s, by %s: %v %d", what, who, j != nil, e)
				}
				if g, e := join.Any(th, l...); g != nil || e != api.ErrNil {
					t.Errorf("P16.3: %s, by %s: %v %d", what, who, g != nil, e)
				}
				for _, k := range []int{0, 1, len(l), -1, len(l) + 1, math.MaxInt, math.MinInt} {
					if g, e := join.Quorum(th, k, l...); g != nil || e != api.ErrNil {
						t.Errorf("P16.4: %s, by %s: %v %d", what, who, g != nil, e)
					}
				}
			}
		}
		if g, e := join.Any(th); g != nil || e != api.ErrNone {
			t.Errorf("P16.3: by %s: %v %d", who, g != nil, e)
		}
		for _, k := range []int{-1, 3, math.MaxInt, math.MinInt} {
			if g, e := join.Quorum(th, k, x, x); g != nil || e != api.ErrArg {
				t.Errorf("P16.4: %d of 2, by %s: %v %d", k, who, g != nil, e)
			}
		}
	}
	for _, f := range aid.Idle(asked) {
		t.Errorf("R3: %s", f)
	}
	called := 0
	r := gate.Run(nil, 9, func(th *gate.Thread) {
		x.Then(th, func(*gate.Thread, int64, error) { called++ })
		x.Complete(th, 5, nil)
	})
	if want := "0 load c0: 0; 0 add c1 1: 0; 0 cas c0 0 1: 0 ok; 0 cas c2 0 1: 0 ok; 0 store c2 2: 1; 0 swap c0 -1: 1"; aid.Texts(r.Log) != want || called != 1 {
		t.Errorf("R2: %s, not %s", aid.Texts(r.Log), want)
	}
}
