package aid_test

import (
	"math"
	"slices"
	"strconv"
	"testing"

	"treadle/aid"
	"treadle/api"
	"treadle/deque"
	"treadle/gate"
)

// owned: a deque's calls by its owner: the deque's own, or its steps.
type owned struct {
	push  func(v int64) bool
	pop   func() (int64, bool)
	steal func() (int64, int8)
	long  func() int64
}

// tells: what an owner's calls are answered.
func (o owned) tells() (told []string) {
	tells := func(l ...int64) { told = append(told, aid.Line(l)) }
	steals := func() {
		v, how := o.steal()
		tells(v, int64(how))
	}
	steals()
	for _, v := range []int64{5, 6, 7, 8} {
		tells(int64(aid.Digit(o.push(v))))
	}
	tells(o.long())
	steals()
	for range 4 {
		v, ok := o.pop()
		tells(v, int64(aid.Digit(ok)))
	}
	return told
}

// byCalls: a deque's own calls, by a thread.
func byCalls(d *deque.Deque, t *gate.Thread) owned {
	return owned{
		func(v int64) bool { return d.Push(t, v) == api.OK },
		func() (int64, bool) { return d.Pop(t) },
		func() (int64, int8) { return d.Steal(t) },
		func() int64 { return d.Len(t) },
	}
}

// bySteps: the steps of one, along a record.
func bySteps(d aid.Deque, s *aid.Steps) owned {
	return owned{
		func(v int64) bool { return d.Push(s, v) },
		func() (int64, bool) { return d.Pop(s) },
		func() (int64, int8) { return d.Steal(s) },
		func() int64 { return d.Len(s) },
	}
}

// TestDeque: the steps of an owner's calls are those that the package makes; of others there are faults.
func TestDeque(t *testing.T) {
	for _, places := range []int{2, 4} {
		for _, from := range []int64{0, -1, 7, math.MaxInt64, math.MinInt64 + 1} {
			x, _ := deque.New(places, from)
			var told []string
			r := gate.Run(nil, 999, func(th *gate.Thread) { told = byCalls(x, th).tells() })
			holds := func(d aid.Deque, from int64, r api.Report) bool {
				held := map[int]int64{99: 4}
				d.Held(held, from)
				of := aid.Of(r)
				var want []string
				whole := of.Thread(0, func(s *aid.Steps) { want = bySteps(d, s).tells() })
				ends := of.Ends(held)
				return whole && slices.Equal(told, want) && len(of.Faults()) == 0 && len(held) == 1+d.Cells() && ends[99] == 4 && ends[d.First+1] == from+2
			}
			if !holds(aid.Deque{First: 10, Places: places}, from, r) {
				t.Errorf("of %d places from %d: %v: %s", places, from, told, aid.Texts(r.Log))
			}
			if holds(aid.Deque{First: 10, Places: 6 - places}, from, r) || holds(aid.Deque{First: 10, Places: places}, from+1, r) {
				t.Errorf("of %d places from %d: the steps are another deque's, and there are no faults", places, from)
			}
			r.Log = slices.Delete(slices.Clone(r.Log), 5, 6)
			if holds(aid.Deque{First: 10, Places: places}, from, r) {
				t.Errorf("of %d places from %d: a step is missing, and there are no faults", places, from)
			}
		}
	}
}

// TestDequesLast: two who reach for the last value: the steps are those that the package makes, for whoever has it.
func TestDequesLast(t *testing.T) {
	met := map[string]int{}
	aid.Every(20, func(picks []int) []int {
		x, _ := deque.New(2, -1)
		x.Push(nil, 5)
		var told, want [2]string
		tells := func(to *string, v int64, how int) { *to = strconv.Itoa(how) + ": " + aid.Line([]int64{v}) }
		r := gate.Run(picks, 20, func(th *gate.Thread) {
			v, ok := x.Pop(th)
			tells(&told[0], v, aid.Digit(ok))
		}, func(th *gate.Thread) {
			v, how := x.Steal(th)
			tells(&told[1], v, int(how))
		})
		d, held, of := aid.Deque{Places: 2}, map[int]int64{}, aid.Of(r)
		d.Held(held, -1, 5)
		of.Thread(0, func(s *aid.Steps) {
			v, ok := d.Pop(s)
			tells(&want[0], v, aid.Digit(ok))
		})
		of.Thread(1, func(s *aid.Steps) {
			v, how := d.Steal(s)
			tells(&want[1], v, int(how))
		})
		if of.Ends(held); told != want || len(of.Faults()) != 0 {
			t.Errorf("%v: %v, not %v: %v", picks, told, want, of.Faults())
		}
		met[told[0]+told[1]]++
		return r.Ready
	})
	if met["1: 5 2: 0 "] != 40 || met["0: 0 1: 5 "] != 35 || met["1: 5 0: 0 "] != 20 || len(met) != 3 {
		t.Errorf("%v", met)
	}
}
