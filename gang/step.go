package gang

import "iter"

// step is one gang more, or one less, on a field (or on Spare), and the sugar that this brings.
type step struct{ field, sugar int }

func (s step) above(other step) bool { return s.sugar > other.sugar }

// ranked is a type of which one value can be above another one.
type ranked[T any] interface{ above(other T) bool }

// most returns the greatest of some values, of several ones the first.
func most[T ranked[T]](first T, others ...T) T {
	greatest := first
	for _, other := range others {
		if other.above(greatest) {
			greatest = other
		}
	}
	return greatest
}

// greatestFirst ranges over the gains of all fields, of equal ones those of the first field first.
func greatestFirst(l []Field) iter.Seq[step] {
	return func(yield func(step) bool) {
		none := step{field: Spare, sugar: -1} // Below each gain, so that it is the most only if none is left.
		plan := make([]int, len(l))
		for {
			s := most(none, further(l, plan)...)
			if s == none || !yield(s) {
				return
			}
			plan[s.field]++
		}
	}
}

// further returns what one gang more brings, for each field that has room for it beside those of a plan.
func further(l []Field, plan []int) []step {
	var steps []step
	for i, n := range plan {
		if n < len(l[i]) {
			steps = append(steps, step{field: i, sugar: l[i][n]})
		}
	}
	return steps
}

// fewer returns what one gang less brings, which is not above 0, for each field that has one in a plan.
func fewer(l []Field, plan []int) []step {
	var steps []step
	for i, n := range plan {
		if n > 0 {
			steps = append(steps, step{field: i, sugar: -l[i][n-1]})
		}
	}
	return steps
}
