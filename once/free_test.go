package once_test

import (
	"runtime"
	"sync/atomic"
	"testing"
	"testing/synctest"

	"treadle/aid"
	"treadle/api"
	"treadle/gate"
	"treadle/once"
)

// TestFreeHands: f is called once, just one is answered true, and all see what f did in plain memory.
func TestFreeHands(t *testing.T) {
	const hands = 8
	for range 3000 {
		o, plain := once.New(), 0
		var got [hands]answer
		aid.Beside(hands, func(h int) {
			got[h] = do(nil, o, func(*gate.Thread) { plain++ })
			if plain != 1 {
				t.Errorf("what follows: answered, one sees %d", plain)
			}
			if a := isDone(nil, o); a != (answer{ok: true}) {
				t.Errorf("P3.2: %v", a)
			}
		})
		if one, rest := count(got[:], answer{ok: true}), count(got[:], answer{}); one != 1 || rest != hands-1 {
			t.Fatalf("what follows: %v", got)
		}
	}
}

// TestFreeHandsOfOneThatFalls: just the one that ran it panics, all others are told.
func TestFreeHandsOfOneThatFalls(t *testing.T) {
	const hands = 8
	for range 3000 {
		o, plain := once.New(), 0
		var got [hands]answer
		aid.Beside(hands, func(h int) {
			got[h] = do(nil, o, func(*gate.Thread) {
				plain++
				panic(h)
			})
			if plain != 1 {
				t.Errorf("what follows: answered, one sees %d", plain)
			}
			if a := isDone(nil, o); a != (answer{e: api.ErrFell}) {
				t.Errorf("P3.2: %v", a)
			}
		})
		fell := 0
		for h, a := range got {
			if a == (answer{fell: h}) {
				fell++
			}
		}
		if told := count(got[:], answer{e: api.ErrFell}); fell != 1 || told != hands-1 {
			t.Fatalf("what follows: %v", got)
		}
	}
}

func count(l []answer, a answer) int {
	n := 0
	for _, b := range l {
		if a == b {
			n++
		}
	}
	return n
}

// TestOthersSleep: while f is under way all others sleep (Wait answers when all in the bubble do; who goes round and looks does not), and they go on when it ends, however it does.
func TestOthersSleep(t *testing.T) {
	for what, row := range map[string]struct {
		end   func()
		first answer
		other answer
	}{
		"returns": {func() {}, answer{ok: true}, answer{}},
		"panics":  {func() { panic("x") }, answer{fell: "x"}, answer{e: api.ErrFell}},
		"exits":   {func() { runtime.Goexit() }, answer{}, answer{e: api.ErrFell}},
	} {
		for who, th := range aid.NotLiving() {
			synctest.Test(t, func(t *testing.T) {
				o, goes := once.New(), make(chan int)
				var answered atomic.Int64
				var first answer
				others := make([]answer, 9)
				go func() {
					first = do(th, o, func(*gate.Thread) {
						<-goes
						row.end()
					})
				}()
				synctest.Wait()
				for i := range others {
					go func() {
						others[i] = do(th, o, isUnasked(t.Error))
						answered.Add(1)
					}()
				}
				synctest.Wait()
				if n := answered.Load(); n != 0 || isDone(th, o) != (answer{}) {
					t.Errorf("P3.1: %s, by one that is %s: %d are answered ahead of f's end; %v", what, who, n, isDone(th, o))
				}
				close(goes)
				synctest.Wait()
				if n := answered.Load(); n != 9 || first != row.first || count(others, row.other) != 9 {
					t.Errorf("what follows: %s, by one that is %s: %d are answered: %v, %v", what, who, n, first, others)
				}
			})
		}
	}
}

// TestWithinAnother: a Do within f of another Once.
func TestWithinAnother(t *testing.T) {
	a, b := once.New(), once.New()
	var in, again answer
	out := do(nil, a, func(th *gate.Thread) {
		in = do(th, b, nothing)
		again = do(th, b, nothing)
	})
	if out != (answer{ok: true}) || in != out || again != (answer{}) {
		t.Errorf("P3.1: %v, %v, %v", out, in, again)
	}
}
