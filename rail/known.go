package rail

import (
	"slices"

	"zafra/api"
)

// known is a line that Check allows, with what is known of the states of its trains.
type known struct {
	Line
	trains int            // How many trains there are.
	safe   map[state]bool // Whether states are safe.
}

// begin returns a line of which nothing is known yet, and the state in which its trains are, or the error of Check.
func begin(l Line, t []Train) (k known, s state, e api.Errno) {
	if e := Check(l, t); e != api.OK {
		return known{}, state{}, e
	}
	return known{Line: l, trains: len(t), safe: map[state]bool{}}, stateOf(t), api.OK
}

func (k known) isTrain(n int) bool { return n >= 0 && n < k.trains }

// listOf returns the trains of a state.
func (k known) listOf(s state) []Train { return slices.Clone(s[:k.trains]) }

// move returns the state after a move, or the error of the move.
func (k known) move(s state, train int) (state, api.Errno) {
	if !k.isTrain(train) {
		return state{}, api.ErrNone
	}
	if s[train].hasArrived() {
		return state{}, api.ErrDiff
	}
	if !k.isOpen(s, s[train]) {
		return state{}, api.ErrFull
	}
	return s.after(train), api.OK
}

func (k known) isSafe(s state) bool {
	safe, is := k.safe[s]
	if !is {
		_, safe = k.plan(s)
		k.safe[s] = safe
	}
	return safe
}

// plan returns moves after which all trains have arrived, if there are some.
func (k known) plan(s state) (plan []int, is bool) {
	defer func() {
		// A panic that is not that of the search goes on, for it has no moves.
		if found := recover(); found != nil {
			plan, is = found.([]int), true
		}
	}()
	var moves []int
	var search func(s state)
	search = func(s state) {
		if s.haveArrived() {
			panic(moves)
		}
		if safe, is := k.safe[s]; is && !safe {
			return
		}
		for _, train := range k.movable(s) {
			moves = append(moves, train)
			search(s.after(train))
			moves = moves[:len(moves)-1]
		}
		k.safe[s] = false
	}
	search(s)
	return nil, false
}
