package aid

import (
	"slices"
	"strconv"

	"treadle/api"
	"treadle/gate"
)

// Mirror plays bodies by the picks, and then others by the same turns: what the first run tells; and what was found, as the second one is to tell the same, nobody is to fall, and who is left in a run that is dead is to sleep.
func Mirror(picks []int, most int, bodies, others []Body) (r api.Report, faults []string) {
	r = gate.Run(picks, most, bodies...)
	same, e, turn := gate.Again(r.Went, others...)
	if e != api.OK || !Same(r, same) {
		faults = append(faults, "apart at the turn "+strconv.Itoa(turn)+" ("+e.Error()+"):\none does "+told(r)+"\nthe other "+told(same))
	}
	awake := func(a api.Access) bool { return a.Op != api.OpPark || a.Was != a.Arg }
	if len(r.Fell) != 0 || r.End == api.Cut && r.Turns < most || r.End == api.Dead && slices.ContainsFunc(r.Left, awake) {
		faults = append(faults, "it falls, or ends amiss: "+told(r))
	}
	return r, faults
}

// told: what a run did, and who is left, and has fallen.
func told(r api.Report) string {
	s := Texts(r.Log) + "; left " + Texts(r.Left) + "; end " + strconv.Itoa(int(r.End)) + "; fell"
	for _, n := range r.Fell {
		s += " " + strconv.Itoa(n)
	}
	return s
}

// MirrorTold is Mirror of bodies that are told things: both stories are to go on alike.
func MirrorTold(picks []int, most int, bodies, others []Body, story, other *Story) (r api.Report, faults []string) {
	from, start := len(*story), len(*other)
	r, faults = Mirror(picks, most, bodies, others)
	if a, b := (*story)[from:], (*other)[start:]; !slices.Equal(a, b) {
		faults = append(faults, "one is told "+a.String()+"\nthe other "+b.String())
	}
	return r, faults
}

// Again: what is found as the run of these picks is played again, by bodies that are made anew each time: one of the same turns is to tell the same, and one of the same picks that has but half the turns is to be its beginning.
func Again(r api.Report, picks []int, anew func() []Body) (faults []string) {
	same, e, turn := gate.Again(r.Went, anew()...)
	if e != api.OK || !Same(r, same) {
		faults = append(faults, "apart at the turn "+strconv.Itoa(turn)+" ("+e.Error()+"):\nfirst "+told(r)+"\nagain "+told(same))
	}
	half := gate.Run(picks, r.Turns/2, anew()...)
	if !slices.Equal(half.Went, r.Went[:r.Turns/2]) || len(half.Log) > len(r.Log) || !slices.Equal(half.Log, r.Log[:len(half.Log)]) {
		faults = append(faults, "it is not the beginning: "+told(half)+"\nof "+told(r))
	}
	return faults
}
