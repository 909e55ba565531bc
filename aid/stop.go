package aid

import (
	"strconv"

	"treadle/api"
	"treadle/gate"
)

// Stops: a thread is stopped in a call, when it had so many turns, and makes others as it leaves: at which access it was; and what was found, as it is to be stopped in this one, and the gate's own panic is to come out of each.
func Stops[C any](turns int, do func(t *gate.Thread, c C), c C, later ...C) (stands string, faults []string) {
	var out []any
	makes := func(t *gate.Thread, c C) { out = append(out, Caught(func() { do(t, c) })) }
	r := gate.Run(nil, turns, func(t *gate.Thread) {
		defer func() {
			for _, c := range later {
				makes(t, c)
			}
		}()
		makes(t, c)
	})
	if r.End == api.Over || len(r.Log) != turns {
		faults = append(faults, "it is not stopped there")
	}
	for i, x := range out {
		if !gate.Is(x) {
			faults = append(faults, "the gate's own panic does not come out of the call number "+strconv.Itoa(i))
		}
	}
	return Texts(r.Left), faults
}
