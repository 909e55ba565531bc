package aid

import (
	"math"
	"slices"

	"treadle/api"
)

// Some: one of the list, by a number that comes from intn: from 0 to below what it is handed.
func Some[T any](intn func(n int) int, l []T) T { return l[intn(len(l))] }

// Rows: all rows of at most so many of these, the shorter ones first.
func Rows[T any](of []T, most int) [][]T {
	rows := [][]T{nil}
	for from := 0; most > 0; most-- {
		last := rows[from:]
		from = len(rows)
		for _, l := range last {
			for _, x := range of {
				rows = append(rows, append(slices.Clip(l), x))
			}
		}
	}
	return rows
}

// Values: some at the ends of int64, and some near one another.
func Values() []int64 {
	return []int64{0, 1, 2, -1, 3, 7, math.MaxInt64, math.MinInt64, math.MaxInt64 - 1, math.MinInt64 + 1, 1 << 62, 1 << 32}
}

// Positions: some at the ends of int64, about 0, and where numbers of fewer bits end.
func Positions() []int64 {
	return []int64{0, 1, 2, 7, -1, -2, -7, math.MaxInt64, math.MaxInt64 - 1, math.MaxInt64 - 2, math.MaxInt64 - 7, math.MinInt64, math.MinInt64 + 1, math.MinInt64 + 5, 1 << 62, -1 << 62, 1 << 32, 1<<32 - 1, 1<<31 - 2, -1 << 31}
}

// Sizes: numbers of places: all about 0, and about each limit that speaks of places; and some where numbers of fewer bits end.
func Sizes() []int {
	l := []int{math.MaxInt, math.MinInt, math.MinInt + 1, 1 << 62, -1 << 62, 1 << 32, 1<<32 + 1, 1<<32 + 2, -1 << 32, 1 << 31, 1 << 16, 1<<16 + 1, 1<<16 - 1}
	most := max(api.MaxRing, api.MaxNodes)
	for n := -most - 2; n <= 3*most; n++ {
		l = append(l, n)
	}
	return l
}
