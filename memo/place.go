package memo

import (
	"math/bits"

	"treadle/api"
	"treadle/cell"
	"treadle/future"
	"treadle/gate"
)

// scatter is 2^64 divided by the golden ratio: what it is multiplied with is spread over the highest bits, however near one another the keys are.
const scatter uint64 = 11400714819323198485

// place: of one key, once that has got it.
type place struct {
	key  *cell.Cell     // 0: nobody's; else the key and 1
	came *future.Future // what came of the building for the key
}

// Place: at which of so many places a key is looked for first; -1, if there is no such key, or no memo of that size.
func Place(key int64, size int) int {
	if key < 0 || !isSize(size) {
		return -1
	}
	z := uint64(key) * scatter
	return int(z >> (64 - bits.TrailingZeros(uint(size)))) // of one place no bit is left
}

// isSize: whether there are memos of so many places.
func isSize(size int) bool { return size >= 1 && size <= api.MaxKeys && size&(size-1) == 0 }

// of: whether the place is the key's, which gets it now, if it is nobody's.
func (p place) of(t *gate.Thread, key int64) bool {
	for {
		switch p.key.Load(t) {
		case key + 1:
			return true
		case 0:
			if p.key.Cas(t, 0, key+1) {
				return true
			}
		default:
			return false
		}
	}
}
