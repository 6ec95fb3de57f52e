// Package bulk is layer 1: which flows of a mill follow from those that are measured, and whether the
// measurements contradict each other. See shared/doc/01-bulk.md.
package bulk

import "zafra/api"

// The limits.
const (
	MaxUnits = 8
	MaxFlows = 20
	Outside  = -1
	MaxSum   = 1000000000000
)

// What is known of a flow.
const (
	Measured = 1
	Found    = 2
	Open     = 3
)

// Masses are those of sucrose, water, fibre and ash.
type Masses [4]int

// Flow goes from a unit to another one.
type Flow struct {
	From     int
	To       int
	Measured bool
	Mass     Masses
}

// Plant is units with flows between them.
type Plant struct {
	Units int
	Flows []Flow
}

// Known is what is known of a flow.
type Known struct {
	State int
	Mass  Masses
}

// Name reports whether a string is a name.
func Name(s string) bool {
	if len(s) < 1 || len(s) > api.MaxName {
		return false
	}
	for i := range len(s) {
		digit := s[i] >= '0' && s[i] <= '9'
		letter := s[i] >= 'a' && s[i] <= 'z'
		if !letter && (!digit || i == 0) {
			return false
		}
	}
	return true
}

// Check returns the error of a plant.
func Check(p Plant) api.Errno {
	if p.Units < 1 || p.Units > MaxUnits {
		return api.ErrRange
	}
	if len(p.Flows) > MaxFlows {
		return api.ErrMany
	}
	return firstError(p.Flows, p.flowError)
}

// firstError returns the error of the first thing that has one.
func firstError[T any](things []T, errorOf func(T) api.Errno) api.Errno {
	for _, thing := range things {
		if e := errorOf(thing); e != api.OK {
			return e
		}
	}
	return api.OK
}

func (p Plant) flowError(f Flow) api.Errno {
	switch {
	case !p.isEnd(f.From) || !p.isEnd(f.To):
		return api.ErrUnit
	case f.From == f.To:
		return api.ErrDiff
	case f.Measured && !f.Mass.within(0, api.MaxMass):
		return api.ErrRange
	}
	return api.OK
}

func (p Plant) isUnit(unit int) bool { return unit >= 0 && unit < p.Units }

func (p Plant) isEnd(end int) bool { return end == Outside || p.isUnit(end) }

func (m Masses) within(least, most int) bool {
	for _, n := range m {
		if n < least || n > most {
			return false
		}
	}
	return true
}

func (m Masses) plus(other Masses) Masses {
	for kind, n := range other {
		m[kind] += n
	}
	return m
}

func (m Masses) minus(other Masses) Masses {
	for kind, n := range other {
		m[kind] -= n
	}
	return m
}
