package gang

import "zafra/api"

// Exchange returns the exchange that gains most.
func Exchange(l []Field, gangs int, plan []int) (from, to, gain int, e api.Errno) {
	used, e := checkPlan(l, gangs, plan)
	if e != api.OK {
		return 0, 0, 0, e
	}
	// An exchange to Spare gains nothing.
	leave, enter := fewer(l, plan), further(l, plan)
	if used < gangs {
		leave = append([]step{{field: Spare}}, leave...)
	}
	none := step{field: Spare, sugar: -api.Never}
	gain = most(none, leave...).sugar + most(none, enter...).sugar
	if gain <= 0 {
		return 0, 0, 0, api.ErrNone
	}
	// From a field to itself there is no such gain: a gang more brings at most what the last one brought.
search:
	for _, a := range leave {
		for _, b := range enter {
			if a.sugar+b.sugar == gain {
				from, to = a.field, b.field
				break search
			}
		}
	}
	return from, to, gain, api.OK
}

// checkPlan returns how many gangs a plan has, or its error for so many gangs.
func checkPlan(l []Field, gangs int, plan []int) (int, api.Errno) {
	if e := checkFor(l, gangs); e != api.OK {
		return 0, e
	}
	used, _, e := Sugar(l, plan)
	if e != api.OK {
		return 0, e
	}
	if used > gangs {
		return 0, api.ErrOver
	}
	return used, api.OK
}
