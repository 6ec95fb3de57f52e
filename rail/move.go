package rail

import "zafra/api"

// Possible returns the trains that can move.
func Possible(l Line, t []Train) ([]int, api.Errno) {
	k, s, e := begin(l, t)
	if e != api.OK {
		return nil, e
	}
	return k.movable(s), api.OK
}

// Move returns the state after a move.
func Move(l Line, t []Train, train int) ([]Train, api.Errno) {
	k, s, e := begin(l, t)
	if e != api.OK {
		return nil, e
	}
	after, e := k.move(s, train)
	if e != api.OK {
		return nil, e
	}
	return k.listOf(after), api.OK
}

// Stuck reports whether no train can move.
func Stuck(l Line, t []Train) (bool, api.Errno) {
	k, s, e := begin(l, t)
	if e != api.OK {
		return false, e
	}
	return k.isStuck(s), api.OK
}
