package aid

import (
	"slices"
	"strconv"

	"treadle/api"
	"treadle/gate"
)

// Mirror plays bodies by the picks, and then others by the same turns: what the first run tells; and what was found, as the second one is to tell the same, nobody is to fall, and who is left in a run that is dead is to sleep.
func Mirror(picks []int, most int, bodies, others []Body) (r api.Report, faults []string) {
	r = gate.Run(picks, most, bodies...)
	same, e, turn := gate.Again(r.Went, others...)
	if e != api.OK || !Same(r, same) {
		faults = append(faults, "apart at the turn "+strconv.Itoa(turn)+" ("+e.Error()+"):\none does "+told(r)+"\nthe other "+told(same))
	}
	awake := func(a api.Access) bool { return a.Op != api.OpPark || a.Was != a.Arg }
	if len(r.Fell) != 0 || r.End == api.Cut && r.Turns < most || r.End == api.Dead && slices.ContainsFunc(r.Left, awake) {
		faults = append(faults, "it falls, or ends amiss: "+told(r))
	}
	return r, faults
}

// told: what a run did, and who is left, and has fallen.
func told(r api.Report) string {
	s := Texts(r.Log) + "; left " + Texts(r.Left) + "; end " + strconv.Itoa(int(r.End)) + "; fell"
	for _, n := range r.Fell {
		s += " " + strconv.Itoa(n)
	}
	return s
}
