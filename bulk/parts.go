package bulk

import (
	"iter"
	"slices"

	"zafra/api"
)

// noFlow stands where no flow is left out.
const noFlow = -1

// heads says which things are joined: those that have the same head.
type heads[T comparable] struct {
	above map[T]T
}

func (h heads[T]) head(thing T) T {
	for {
		next, ok := h.above[thing]
		if !ok {
			return thing
		}
		thing = next
	}
}

func (h heads[T]) joined(a, b T) bool { return h.head(a) == h.head(b) }

// join joins two things, and reports whether they were not joined before.
func (h heads[T]) join(a, b T) bool {
	a, b = h.head(a), h.head(b)
	if a == b {
		return false
	}
	h.above[a] = b
	return true
}

// joins returns what the unmeasured flows join, one of which can be left out.
func joins(p Plant, leftOut int) heads[int] {
	h := heads[int]{above: map[int]int{}}
	for i, f := range p.Flows {
		if !f.Measured && i != leftOut {
			h.join(f.From, f.To)
		}
	}
	return h
}

// parts yields each part's number and its units in ascending order.
func parts(p Plant) iter.Seq2[int, []int] {
	return func(yield func(int, []int) bool) {
		h := joins(p, noFlow)
		number := 0
		for least := range p.Units {
			var units []int
			for unit := range p.Units {
				if h.joined(unit, least) {
					units = append(units, unit)
				}
			}
			if units[0] != least || h.joined(least, Outside) {
				continue
			}
			if !yield(number, units) {
				return
			}
			number++
		}
	}
}

// Parts returns the part of each unit.
func Parts(p Plant) ([]int, api.Errno) {
	if e := Check(p); e != api.OK {
		return nil, e
	}
	partOf := make([]int, p.Units)
	for unit := range partOf {
		partOf[unit] = -1
	}
	for number, units := range parts(p) {
		for _, unit := range units {
			partOf[unit] = number
		}
	}
	return partOf, api.OK
}

// Excess returns what comes to a set of units more than what goes from it.
func Excess(p Plant, units []int) (Masses, api.Errno) {
	if e := Check(p); e != api.OK {
		return Masses{}, e
	}
	if len(units) == 0 {
		return Masses{}, api.ErrEmpty
	}
	for i, unit := range units {
		if !p.isUnit(unit) {
			return Masses{}, api.ErrUnit
		}
		if i > 0 && unit <= units[i-1] {
			return Masses{}, api.ErrOrder
		}
	}
	return excess(p, units), api.OK
}

func excess(p Plant, units []int) Masses {
	var sum Masses
	for _, f := range p.Flows {
		if !f.Measured {
			continue
		}
		// A flow within the set counts twice, so that it cancels.
		if slices.Contains(units, f.To) {
			sum = sum.plus(f.Mass)
		}
		if slices.Contains(units, f.From) {
			sum = sum.minus(f.Mass)
		}
	}
	return sum
}
