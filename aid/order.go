package aid

// Plainly: whether a plain thing in this state answers the calls so, one behind another. does: as of Explained.
func Plainly[C any, A, S comparable](state S, calls []C, got []A, does func(state S, c C) (S, A)) bool {
	if len(got) != len(calls) {
		return false
	}
	for i, c := range calls {
		var want A
		if state, want = does(state, c); got[i] != want {
			return false
		}
	}
	return true
}

// Explained: whether there is an order of all calls, that keeps each hand's own, in which a plain thing in this state would have answered what the hands got, and would be left in a state that fits. does: what the thing is behind a call, and what it answers. (At most 255 calls a hand.)
func Explained[C any, A, S comparable](calls [][]C, got [][]A, from S, does func(state S, c C) (S, A), fits func(state S) bool) bool {
	type point struct {
		done  string // a byte a hand: how many of its calls
		state S
	}
	vain := map[point]struct{}{} // from there nothing explains the rest
	var explained func(at []byte, state S) bool
	explained = func(at []byte, state S) bool {
		here, over := point{string(at), state}, true
		if _, met := vain[here]; met {
			return false
		}
		for hand, l := range calls {
			if int(at[hand]) == len(l) {
				continue
			}
			over = false
			next, answer := does(state, l[at[hand]])
			if answer != got[hand][at[hand]] {
				continue
			}
			at[hand]++
			found := explained(at, next)
			at[hand]--
			if found {
				return true
			}
		}
		if over && fits(state) {
			return true
		}
		vain[here] = struct{}{}
		return false
	}
	return explained(make([]byte, len(calls)), from)
}
