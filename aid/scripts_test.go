package aid_test

import (
	"slices"
	"sync/atomic"
	"testing"

	"treadle/aid"
	"treadle/api"
	"treadle/gate"
)

// plus: calls that add so much and answer what was there.
func plus(x *atomic.Int64, calls [][]int64) *aid.Scripts[int64, int64] {
	return &aid.Scripts[int64, int64]{
		Calls: calls,
		Do: func(t *gate.Thread, d int64) int64 {
			was, _, _ := t.Step(x, api.OpAdd, d, 0)
			return was
		},
		Steps: func(s *aid.Steps, d int64) int64 { return s.Add(0, d) - d },
	}
}

func TestScripts(t *testing.T) {
	calls := [][]int64{{1, 2}, {}, {5}}
	for most, want := range [][][]int64{{{}, {}, {}}, {{}, {}, {7}}, {{12}, {}, {7}}, {{12, 13}, {}, {7}}} {
		var x atomic.Int64
		x.Store(7)
		l := plus(&x, calls)
		r := gate.Run([]int{1}, most, l.Bodies()...)
		ends, faults := l.Ends(r, map[int]int64{0: 7})
		if len(faults) != 0 || ends[0] != x.Load() || !slices.EqualFunc(l.Got, want, slices.Equal) {
			t.Errorf("%d turns: %v, %v, %v", most, faults, ends, l.Got)
		}
	}
}

// TestScriptsThatAreNotKept: answers and accesses that are not those of the steps.
func TestScriptsThatAreNotKept(t *testing.T) {
	var x atomic.Int64
	for what, do := range map[string]func(t *gate.Thread, d int64) int64{
		"another answer": func(t *gate.Thread, d int64) int64 {
			_, now, _ := t.Step(&x, api.OpAdd, d, 0)
			return now
		},
		"another access": func(t *gate.Thread, d int64) int64 {
			was, _, _ := t.Step(&x, api.OpSwap, d, 0)
			return was
		},
		"one too many": func(t *gate.Thread, d int64) int64 {
			was, _, _ := t.Step(&x, api.OpAdd, d, 0)
			t.Step(&x, api.OpLoad, 0, 0)
			return was
		},
		"one too few": func(t *gate.Thread, d int64) int64 { return 0 },
	} {
		x.Store(0)
		l := plus(&x, [][]int64{{1, 2}, {3}})
		l.Do = do
		r := gate.Run(nil, 99, l.Bodies()...)
		if _, faults := l.Ends(r, nil); len(faults) == 0 {
			t.Errorf("%s: no fault", what)
		}
	}
}

// TestPlainly: adds to a number, each of which answers what was there.
func TestPlainly(t *testing.T) {
	does := func(state, d int64) (int64, int64) { return state + d, state }
	for _, row := range []struct {
		calls, got []int64
		want       bool
	}{
		{nil, nil, true},
		{[]int64{1, 2, 3}, []int64{7, 8, 10}, true},
		{[]int64{1, 2, 3}, []int64{7, 8, 9}, false},
		{[]int64{1, 2, 3}, []int64{6, 8, 10}, false},
		{[]int64{1, 2, 3}, []int64{7, 8}, false},
		{[]int64{1, 2}, []int64{7, 8, 10}, false},
	} {
		if got := aid.Plainly(7, row.calls, row.got, does); got != row.want {
			t.Errorf("%+v: %v", row, got)
		}
	}
}

// TestExplained: adds to a number, each of which answers what was there.
func TestExplained(t *testing.T) {
	does := func(state, d int64) (int64, int64) { return state + d, state }
	for _, row := range []struct {
		calls, got [][]int64
		end        int64
		want       bool
	}{
		{nil, nil, 7, true},
		{nil, nil, 8, false},
		{[][]int64{{1}, {2}}, [][]int64{{7}, {8}}, 10, true},
		{[][]int64{{1}, {2}}, [][]int64{{9}, {7}}, 10, true},
		{[][]int64{{1}, {2}}, [][]int64{{7}, {7}}, 10, false},
		{[][]int64{{1}, {2}}, [][]int64{{7}, {8}}, 9, false},
		{[][]int64{{1, 2}}, [][]int64{{7, 8}}, 10, true},
		{[][]int64{{1, 2}}, [][]int64{{9, 7}}, 10, false}, // not its own order
		{[][]int64{{0, 0, 0}, {0, 1}, {0}}, [][]int64{{7, 7, 8}, {7, 7}, {8}}, 8, true},
		{[][]int64{{0, 0, 0}, {0, 1}, {0}}, [][]int64{{7, 8, 7}, {7, 7}, {8}}, 8, false},
	} {
		if got := aid.Explained(row.calls, row.got, 7, does, func(s int64) bool { return s == row.end }); got != row.want {
			t.Errorf("%+v: %v", row, got)
		}
	}
	var calls, got [][]int64
	for range 4 { // far more orders than can be gone through
		calls, got = append(calls, make([]int64, 15)), append(got, make([]int64, 15))
	}
	if aid.Explained(calls, got, 0, does, func(int64) bool { return false }) {
		t.Error("nothing fits")
	}
}
