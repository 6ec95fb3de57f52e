package bulk

import (
	"slices"

	"zafra/api"
)

// Close returns what is known of each flow.
func Close(p Plant) ([]Known, api.Errno) {
	if e := Check(p); e != api.OK {
		return nil, e
	}
	for _, units := range parts(p) {
		if excess(p, units) != (Masses{}) {
			return nil, api.ErrClash
		}
	}
	// What is the same in all balances can be read from any one.
	balance := settle(p)
	known := make([]Known, len(p.Flows))
	for i, f := range p.Flows {
		switch {
		case f.Measured:
			known[i] = Known{State: Measured, Mass: f.Mass}
		case joins(p, i).joined(f.From, f.To):
			known[i] = Known{State: Open}
		default:
			known[i] = Known{State: Found, Mass: balance[i]}
		}
	}
	return known, api.OK
}

// Fill returns a balance in which a flow has some masses.
func Fill(p Plant, flow int, m Masses) ([]Masses, api.Errno) {
	known, e := Close(p)
	if e != api.OK {
		return nil, e
	}
	if flow < 0 || flow >= len(known) {
		return nil, api.ErrNone
	}
	differs := known[flow].State != Open && known[flow].Mass != m
	if differs || !m.within(-api.MaxMass, api.MaxMass) {
		return nil, api.ErrDiff
	}
	flows := slices.Clone(p.Flows)
	flows[flow].Measured, flows[flow].Mass = true, m
	return settle(Plant{Units: p.Units, Flows: flows}), api.OK
}

// forestOf chooses unmeasured flows that join all that the unmeasured flows join, without going around.
func forestOf(p Plant) []bool {
	chosen := make([]bool, len(p.Flows))
	h := heads[int]{above: map[int]int{}}
	for i, f := range p.Flows {
		chosen[i] = !f.Measured && h.join(f.From, f.To)
	}
	return chosen
}

// settle returns a balance of a plant that has one. Of the unmeasured flows only those of a forest carry
// anything, so that what each of them carries follows from the ends of the trees.
func settle(p Plant) []Masses {
	balance := make([]Masses, len(p.Flows))
	for i, f := range p.Flows {
		if f.Measured {
			balance[i] = f.Mass
		}
	}
	inForest := forestOf(p)
	var reached [1 + MaxUnits]bool
	// gather settles the trees that hang on an end, without the flow by which it was reached, and returns
	// what is left over there for this flow.
	var gather func(end, by int) Masses
	gather = func(end, by int) Masses {
		reached[end-Outside] = true
		left := excess(p, []int{end})
		for i, f := range p.Flows {
			if !inForest[i] || i == by {
				continue
			}
			switch end {
			case f.To:
				rest := gather(f.From, i)
				balance[i] = rest
				left = left.plus(rest)
			case f.From:
				rest := gather(f.To, i)
				balance[i] = Masses{}.minus(rest)
				left = left.plus(rest)
			}
		}
		return left
	}
	// Outside comes first, so that it is the root of its tree: nothing is asked of what is left over there.
	for end := Outside; end < p.Units; end++ {
		if !reached[end-Outside] {
			gather(end, noFlow)
		}
	}
	return balance
}

// Verify checks a balance.
func Verify(p Plant, balance []Masses) (unit int, e api.Errno) {
	if e = Check(p); e != api.OK {
		return 0, e
	}
	if len(balance) != len(p.Flows) {
		return 0, api.ErrShape
	}
	for _, m := range balance {
		if !m.within(-MaxSum, MaxSum) {
			return 0, api.ErrRange
		}
	}
	flows := slices.Clone(p.Flows)
	for i, f := range flows {
		if f.Measured && balance[i] != f.Mass {
			return 0, api.ErrDiff
		}
		flows[i].Measured, flows[i].Mass = true, balance[i]
	}
	told := Plant{Units: p.Units, Flows: flows}
	for unit := range p.Units {
		if excess(told, []int{unit}) != (Masses{}) {
			return unit, api.ErrSum
		}
	}
	return 0, api.OK
}
