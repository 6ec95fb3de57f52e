package ripe

// fraction is over divided by under, which is above 0. Those of this package lie within MaxWeeks times MaxSweet of 0,
// and under is less than MaxWeeks to the power of three, so that all products fit into 64 bits without reducing them.
type fraction struct {
	over  int
	under int
}

func whole(n int) fraction { return fraction{over: n, under: 1} }

func (f fraction) above(other fraction) bool { return f.over*other.under > other.over*f.under }

func (f fraction) below(other fraction) bool { return other.above(f) }

func (f fraction) minus(other fraction) fraction {
	return fraction{over: f.over*other.under - other.over*f.under, under: f.under * other.under}
}

// down rounds down. Only sweetness and regrets are rounded, and neither is below 0.
func (f fraction) down() int { return f.over / f.under }

// up rounds up what is not below 0.
func (f fraction) up() int { return (f.over + f.under - 1) / f.under }

// foremost returns the first one of all things that none of them comes before.
func foremost[T any](before func(a, b T) bool, first T, others ...T) T {
	for _, other := range others {
		if before(other, first) {
			first = other
		}
	}
	return first
}

func greatest(first fraction, others ...fraction) fraction {
	return foremost(fraction.above, first, others...)
}

func smallest(first fraction, others ...fraction) fraction {
	return foremost(fraction.below, first, others...)
}
