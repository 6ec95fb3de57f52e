package bulk

import (
	"slices"

	"zafra/api"
)

// Prove returns units that prove that there is no balance.
func Prove(p Plant) (units []int, kind int, e api.Errno) {
	if e = Check(p); e != api.OK {
		return nil, 0, e
	}
	e = api.ErrNone
search:
	for _, part := range parts(p) {
		for k, n := range excess(p, part) {
			if n != 0 {
				units, kind, e = part, k, api.OK
				break search
			}
		}
	}
	return units, kind, e
}

// Refutes checks such units.
func Refutes(p Plant, units []int, kind int) api.Errno {
	sum, e := Excess(p, units)
	if e != api.OK {
		return e
	}
	if kind < 0 || kind >= len(sum) {
		return api.ErrKind
	}
	if sum[kind] == 0 || leaks(p, units) {
		return api.ErrProof
	}
	return api.OK
}

// leaks reports whether an unmeasured flow goes between the set of units and anything else.
func leaks(p Plant, units []int) bool {
	return slices.ContainsFunc(p.Flows, func(f Flow) bool {
		return !f.Measured && slices.Contains(units, f.From) != slices.Contains(units, f.To)
	})
}
