package prio

import (
	"treadle/api"
	"treadle/gate"
)

// ahead: one level more is worth as much as so many tickets less.
const ahead = 64

// firsts are what stands first on each level, as a Take finds it.
type firsts struct {
	worths    [api.MaxLevels]int64
	positions [api.MaxLevels]int64
	claims    [api.MaxLevels]func(t *gate.Thread, end int, at int64) bool // the level's own; nil, where nothing is found
}

// worth: of what has the ticket on the level.
func worth(level int, ticket int64) int64 { return ahead*int64(level) - ticket }

// best: the level of what is worth most; false, where nothing is found.
func (f *firsts) best() (level int, is bool) {
	for n, w := range &f.worths {
		if f.claims[n] == nil {
			continue
		}
		if !is || w > f.worths[level] { // of what is worth the same the lowest level's has the least ticket
			level, is = n, true
		}
	}
	return level, is
}
