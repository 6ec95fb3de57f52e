package pan

import (
	"iter"
	"slices"

	"zafra/api"
)

// minutes is when each step begins.
type minutes [MaxSteps]int

// Table returns the timetable for the pace.
func Table(w Work) ([]int, api.Errno) {
	if e := Check(w); e != api.OK {
		return nil, e
	}
	_, at := w.pace()
	return slices.Clone(at[:w.Steps]), api.OK
}

// Verify checks a timetable for a period.
func Verify(w Work, p Period, table []int) api.Errno {
	if e := Check(w); e != api.OK {
		return e
	}
	if e := p.check(); e != api.OK {
		return e
	}
	if len(table) != w.Steps {
		return api.ErrShape
	}
	for _, minute := range table {
		if !isWithin(minute, 0, MaxTime) {
			return api.ErrRange
		}
	}
	var at minutes
	copy(at[:], table)
	if len(w.those(p, at, Period.isBroken)) > 0 {
		return api.ErrProof
	}
	return api.OK
}

// keep returns the timetable for a period whose numbers are as small as they can be; or, if the period cannot be kept,
// a slower cycle.
func (w Work) keep(p Period) (at minutes, slower []int) {
	slower = w.settle(&at, p.demands(w, &at))
	return at, slower
}

// settle lets steps begin later, each as late as the waits to it demand, until nothing changes. If that never comes, it
// returns a cycle of waits that demand more each time.
func (w Work) settle(at *minutes, demands iter.Seq2[int, int]) []int {
	last := slices.Repeat([]int{-1}, w.Steps) // The wait that moved each step last.
	rounds := 0
again:
	changed := false
	for n, minute := range demands {
		if step := w.Waits[n].To; minute > at[step] {
			at[step], last[step], changed = minute, n, true
		}
	}
	rounds++
	if !changed {
		return nil
	}
	if rounds < w.Steps {
		goto again
	}
	// A step that was moved in a round was moved by one that was itself moved in that round or in the one before. So
	// there are as many last waits behind it as there were rounds, and they come to some step again.
	return w.cycle(slices.DeleteFunc(last, func(n int) bool { return n < 0 }))
}
