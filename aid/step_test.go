package aid_test

import (
	"math"
	"sync/atomic"
	"testing"

	"treadle/aid"
	"treadle/api"
	"treadle/gate"
)

// TestStep: by whom it may be, it does what the thread's own Step does.
func TestStep(t *testing.T) {
	type told struct {
		was, now int64
		ok       bool
	}
	does := func(step func(x *atomic.Int64, op int8, arg, next int64) (int64, int64, bool)) (l []told) {
		var x atomic.Int64
		x.Store(5)
		for _, a := range []api.Access{
			{Op: api.OpLoad, Arg: 9, New: 9}, {Op: api.OpStore, Arg: 3, New: 9}, {Op: api.OpCas, Arg: 4, New: 7}, {Op: api.OpCas, Arg: 3, New: 7}, {Op: api.OpCas, Arg: 7, New: 7}, {Op: api.OpSwap, Arg: -1, New: 9},
			{Op: api.OpAdd, Arg: math.MinInt64, New: 9}, {Op: api.OpPark, Arg: 0, New: 9}, {Op: api.OpLoad},
		} {
			was, now, ok := step(&x, a.Op, a.Arg, a.New)
			l = append(l, told{was, now, ok}, told{was: x.Load()})
		}
		return l
	}
	var want []told
	r := gate.Run(nil, 99, func(th *gate.Thread) { want = does(th.Step) })
	by := func(th *gate.Thread) func(x *atomic.Int64, op int8, arg, next int64) (int64, int64, bool) {
		return func(x *atomic.Int64, op int8, arg, next int64) (int64, int64, bool) {
			return aid.Step(th, x, op, arg, next)
		}
	}
	for _, f := range aid.By(func(who string, th *gate.Thread) {
		got := does(by(th))
		for i := range want {
			if got[i] != want[i] {
				t.Errorf("by %s: the number %d: %v, not %v", who, i, got[i], want[i])
			}
		}
	}) {
		t.Error(f)
	}
	if r = gate.Run(nil, 99, func(th *gate.Thread) { does(by(th)) }); r.Turns != 9 {
		t.Errorf("%d accesses", r.Turns)
	}
	var x atomic.Int64
	x.Store(4)
	if r = gate.Run(nil, 99, func(th *gate.Thread) { aid.Load(th, &x) }); aid.Load(nil, &x) != 4 || aid.Texts(r.Log) != "0 load c0: 4" {
		t.Errorf("Load: %s", aid.Texts(r.Log))
	}
}
