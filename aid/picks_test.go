package aid_test

import (
	"math/rand"
	"slices"
	"testing"

	"treadle/aid"
)

func TestPicks(t *testing.T) {
	r := rand.New(rand.NewSource(1))
	lengths, values := map[int]bool{}, map[int]bool{}
	for range 1000 {
		l := aid.Picks(r.Intn, 5)
		lengths[len(l)] = true
		for _, v := range l {
			values[v] = true
		}
	}
	if len(lengths) != 6 || !lengths[0] || !lengths[5] || len(values) != 9 || !values[-4] || !values[4] {
		t.Errorf("%v, %v", lengths, values)
	}
}

func TestBursts(t *testing.T) {
	r := rand.New(rand.NewSource(1))
	lengths, values := map[int]bool{}, map[int]bool{}
	for range 1000 {
		l := aid.Bursts(r.Intn, []int{2, 6})
		lengths[len(l)] = true
		for i := 0; i < len(l); i += 2 {
			values[l[i]] = true
			if l[i] != l[i+1] {
				t.Fatalf("%v", l)
			}
		}
	}
	if !lengths[0] || !lengths[2] || !lengths[6] || len(values) != 5 {
		t.Errorf("%v, %v", lengths, values)
	}
}

func TestMixed(t *testing.T) {
	for seed := range int64(200) {
		one, other := rand.New(rand.NewSource(seed)), rand.New(rand.NewSource(seed))
		want := aid.Picks(other.Intn, 7)
		if seed%2 == 0 {
			want = aid.Bursts(other.Intn, []int{3, 4})
		}
		if got := aid.Mixed(seed, one.Intn, 7, []int{3, 4}); !slices.Equal(got, want) {
			t.Fatalf("%d: %v, not %v", seed, got, want)
		}
	}
}

func TestGoes(t *testing.T) {
	if l := aid.Goes([2]int{0, 2}, [2]int{3, 0}, [2]int{-1, 3}); !slices.Equal(l, []int{0, 0, -1, -1, -1}) || len(aid.Goes()) != 0 {
		t.Errorf("%v", l)
	}
}

func TestSpread(t *testing.T) {
	for want, l := range map[[4]int][]int{{0, 3, 6, 9}: aid.Spread(4, 3), {0, -1, -2, -3}: aid.Spread(4, -1), {}: append(aid.Spread(0, 5), 0, 0, 0, 0)} {
		if !slices.Equal(l, want[:]) {
			t.Errorf("%v, not %v", l, want)
		}
	}
}
