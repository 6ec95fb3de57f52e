package pan

import (
	"slices"

	"zafra/api"
)

// Hold returns a cycle that takes as long as the pace.
func Hold(w Work) ([]int, api.Errno) {
	if e := Check(w); e != api.OK {
		return nil, e
	}
	p, at := w.pace()
	if p.Num == 0 {
		return nil, api.ErrNone
	}
	// All waits of the slowest cycles are tight, and no cycle of tight waits is faster than the pace.
	return w.cycle(w.those(p, at, Period.isTight)), api.OK
}

// Holds returns the period of a cycle.
func Holds(w Work, cycle []int) (Period, api.Errno) {
	if e := Check(w); e != api.OK {
		return Period{}, e
	}
	if e := w.checkCycle(cycle); e != api.OK {
		return Period{}, e
	}
	return w.periodOf(cycle), api.OK
}

func (w Work) checkCycle(cycle []int) api.Errno {
	if len(cycle) == 0 {
		return api.ErrEmpty
	}
	var there [MaxWaits]bool
	for _, n := range cycle {
		if !w.isWait(n) {
			return api.ErrNone
		}
		if there[n] {
			return api.ErrTwice
		}
		there[n] = true
	}
	var left [MaxSteps]bool
	end := w.Waits[cycle[len(cycle)-1]].To
	for _, n := range cycle {
		wait := w.Waits[n]
		if wait.From != end || left[wait.From] {
			return api.ErrShape
		}
		left[wait.From], end = true, wait.To
	}
	return api.OK
}

// periodOf returns the period of a cycle, in lowest terms.
func (w Work) periodOf(cycle []int) Period {
	var p Period
	for _, n := range cycle {
		p.Num += w.Waits[n].most()
		p.Den += w.Waits[n].Back
	}
	return p.lowest()
}

func (w Work) isStuck() bool {
	var within []int
	for n, wait := range w.Waits {
		if wait.Back == 0 {
			within = append(within, n)
		}
	}
	return w.cycle(within) != nil
}

// those returns the waits for which something is so in a timetable for a period.
func (w Work) those(p Period, at minutes, is func(Period, Wait, minutes) bool) []int {
	var numbers []int
	for n, wait := range w.Waits {
		if is(p, wait, at) {
			numbers = append(numbers, n)
		}
	}
	return numbers
}

// cycle returns a cycle of some of the waits, or nil if they have none.
func (w Work) cycle(waits []int) []int {
	var way []int // The waits that lead to the step that is looked at.
	var seen [MaxSteps]bool
	var search func(step int) []int
	search = func(step int) []int {
		if place := slices.IndexFunc(way, func(n int) bool { return w.Waits[n].From == step }); place >= 0 {
			return way[place:]
		}
		if seen[step] {
			return nil
		}
		seen[step] = true
		for _, n := range waits {
			if w.Waits[n].From != step {
				continue
			}
			way = append(way, n)
			if cycle := search(w.Waits[n].To); cycle != nil {
				return cycle
			}
			way = way[:len(way)-1]
		}
		return nil
	}
	for step := range w.Steps {
		if cycle := search(step); cycle != nil {
			return cycle
		}
	}
	return nil
}
