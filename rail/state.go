package rail

import (
	"cmp"
	"iter"
)

// state is where trains are and where they go. It has MaxTrains trains, so that it can be a key of a map: the ones that
// a list lacks have arrived.
type state [MaxTrains]Train

func stateOf(t []Train) state {
	var s state
	copy(s[:], t)
	return s
}

func (t Train) hasArrived() bool { return t.At == t.To }

// next returns the section to which a train moves.
func (t Train) next() int { return t.At + cmp.Compare(t.To, t.At) }

// onWay ranges over the trains on the way, with their numbers.
func (s state) onWay() iter.Seq2[int, Train] {
	return func(yield func(int, Train) bool) {
		for n, train := range s {
			if !train.hasArrived() && !yield(n, train) {
				return
			}
		}
	}
}

func (s state) haveArrived() bool {
	for range s.onWay() {
		return false
	}
	return true
}

// countAt returns how many trains on the way are at a section.
func (s state) countAt(section int) int {
	count := 0
	for _, train := range s.onWay() {
		if train.At == section {
			count++
		}
	}
	return count
}

// after returns the state after a move of a train.
func (s state) after(train int) state {
	s[train].At = s[train].next()
	return s
}

// isOpen returns whether a train on the way can move.
func (l Line) isOpen(s state, train Train) bool {
	next := train.next()
	return next == train.To || s.countAt(next) < l[next]
}

// movable returns the numbers of the trains on the way that can move.
func (l Line) movable(s state) []int {
	var numbers []int
	for n, train := range s.onWay() {
		if l.isOpen(s, train) {
			numbers = append(numbers, n)
		}
	}
	return numbers
}

// isStuck returns whether some train is on the way, and none can move.
func (l Line) isStuck(s state) bool {
	stuck := false
trains:
	for _, train := range s.onWay() {
		switch {
		case l.isOpen(s, train):
			stuck = false
			break trains
		default:
			stuck = true
		}
	}
	return stuck
}
