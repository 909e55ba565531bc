package aid_test

import (
	"slices"
	"testing"

	"treadle/aid"
)

func TestLine(t *testing.T) {
	for want, l := range map[string][]int64{"": nil, "7 ": {7}, "0 -3 12 12 ": {0, -3, 12, 12}, "9223372036854775807 -9223372036854775808 ": {1<<63 - 1, -1 << 63}} {
		if got := aid.Line(l); got != want || !slices.Equal(aid.OfLine(got), l) {
			t.Errorf("%v: %q, not %q: %v", l, got, want, aid.OfLine(got))
		}
	}
	every := aid.Line(aid.Positions())
	if !slices.Equal(aid.OfLine(every), aid.Positions()) {
		t.Errorf("%s", every)
	}
}

func TestEachOnce(t *testing.T) {
	for _, row := range []struct {
		l        []int64
		from, to int64
		want     bool
	}{
		{nil, 0, 0, true}, {nil, 5, 5, true}, {nil, 5, 4, true}, {nil, 0, 1, false}, {[]int64{1}, 0, 1, true}, {[]int64{0}, 0, 1, false}, {[]int64{2}, 0, 1, false}, {[]int64{1}, 0, 0, false},
		{[]int64{3, 1, 2}, 0, 3, true}, {[]int64{3, 1, 2}, 0, 4, false}, {[]int64{3, 1, 3}, 0, 3, false}, {[]int64{3, 1, 2, 2}, 0, 3, false}, {[]int64{7, 6, 8}, 5, 8, true}, {[]int64{7, 6, 8}, 4, 8, false}, {[]int64{5}, 4, 4, false},
	} {
		was := slices.Clone(row.l)
		if got := aid.EachOnce(row.l, row.from, row.to); got != row.want || !slices.Equal(was, row.l) {
			t.Errorf("%+v: %v", row, got)
		}
	}
}
