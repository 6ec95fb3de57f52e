package rail

import "zafra/api"

// Good returns the trains that a dispatcher lets move.
func Good(l Line, t []Train) ([]int, api.Errno) {
	k, s, e := begin(l, t)
	if e != api.OK {
		return nil, e
	}
	var good []int
	for _, train := range k.movable(s) {
		if k.isSafe(s.after(train)) {
			good = append(good, train)
		}
	}
	return good, api.OK
}

// Dispatch asks a dispatcher for moves.
func Dispatch(l Line, t []Train, asks []int) (let []bool, end []Train, e api.Errno) {
	k, s, e := begin(l, t)
	if e != api.OK {
		return nil, nil, e
	}
	if !k.isSafe(s) {
		return nil, nil, api.ErrStuck
	}
	if len(asks) > MaxAsks {
		return nil, nil, api.ErrMany
	}
	for _, train := range asks {
		if !k.isTrain(train) {
			return nil, nil, api.ErrNone
		}
	}
	for _, train := range asks {
		after, e := k.move(s, train)
		good := e == api.OK && k.isSafe(after)
		if good {
			s = after
		}
		let = append(let, good)
	}
	return let, k.listOf(s), api.OK
}
