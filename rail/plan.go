package rail

import "zafra/api"

// Safe reports whether all trains can arrive.
func Safe(l Line, t []Train) (bool, api.Errno) {
	k, s, e := begin(l, t)
	if e != api.OK {
		return false, e
	}
	return k.isSafe(s), api.OK
}

// Plan returns moves after which all trains have arrived.
func Plan(l Line, t []Train) ([]int, api.Errno) {
	k, s, e := begin(l, t)
	if e != api.OK {
		return nil, e
	}
	plan, is := k.plan(s)
	if !is {
		return nil, api.ErrStuck
	}
	return plan, api.OK
}

// Verify checks such moves.
func Verify(l Line, t []Train, plan []int) (at int, e api.Errno) {
	k, s, e := begin(l, t)
	if e != api.OK {
		return 0, e
	}
	for place, train := range plan {
		after, e := k.move(s, train)
		if e != api.OK {
			return place, e
		}
		s = after
	}
	if !s.haveArrived() {
		return len(plan), api.ErrDiff
	}
	return len(plan), api.OK
}
