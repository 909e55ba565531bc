package aid

import (
	"math"
	"math/bits"
	"strconv"

	"treadle/api"
)

// Rooms: what is found of things of n places whose positions begin with from, as there are such of each power of two from 2 to MaxRing, and ErrArg is answered of each other n, whatever from. makes: whether one is made, and the error.
func Rooms(makes func(n int, from int64) (bool, api.Errno)) (faults []string) {
	for _, n := range Sizes() {
		for _, from := range []int64{0, -1, math.MaxInt64, math.MinInt64} {
			want := api.ErrArg
			if n >= 2 && n <= api.MaxRing && bits.OnesCount(uint(n)) == 1 {
				want = api.OK
			}
			if is, e := makes(n, from); e != want || is != (e == api.OK) {
				faults = append(faults, strconv.Itoa(n)+" places from "+strconv.FormatInt(from, 10)+": "+e.Error())
			}
		}
	}
	return faults
}
