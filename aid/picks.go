package aid

import "slices"

// Picks: some picks, of numbers that come from intn: from 0 to below what it is handed.
func Picks(intn func(n int) int, most int) []int {
	l := make([]int, intn(most+1))
	for i := range l {
		l[i] = intn(9) - 4
	}
	return l
}

// Bursts: some picks by which one thread goes for a while, then another: for so many turns at a time as the list has.
func Bursts(intn func(n int) int, turns []int) (picks []int) {
	for range intn(12) {
		picks = append(picks, slices.Repeat([]int{intn(5)}, Some(intn, turns))...)
	}
	return picks
}

// Mixed: Picks of an odd seed, Bursts of an even one.
func Mixed(seed int64, intn func(n int) int, most int, turns []int) []int {
	picks := Picks(intn, most)
	if seed%2 == 0 {
		picks = Bursts(intn, turns)
	}
	return picks
}

// Goes: picks by which one thread goes so often, then one so often, and so on.
func Goes(turns ...[2]int) (picks []int) {
	for _, x := range turns {
		picks = append(picks, slices.Repeat(x[:1], x[1])...)
	}
	return picks
}

// Spread: so many picks, each so much more than the one ahead of it.
func Spread(n, step int) []int {
	picks := make([]int, n)
	for i := range picks {
		picks[i] = i * step
	}
	return picks
}
