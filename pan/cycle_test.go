package pan_test

import (
	"math/rand/v2"
	"slices"
	"testing"

	"zafra/api"
	"zafra/pan"
)

// isCycle returns whether a list of waits is a cycle.
func isCycle(w pan.Work, l []int) bool {
	for i, n := range l {
		if w.Waits[n].To != w.Waits[l[(i+1)%len(l)]].From {
			return false
		}
		for _, other := range l[:i] {
			if n == other || w.Waits[n].From == w.Waits[other].From {
				return false
			}
		}
	}
	return len(l) > 0
}

// holdsOf returns what Holds has to return.
func holdsOf(w pan.Work, l []int) (pan.Period, api.Errno) {
	if len(l) == 0 {
		return pan.Period{}, api.ErrEmpty
	}
	for i, n := range l {
		if n < 0 || n >= len(w.Waits) {
			return pan.Period{}, api.ErrNone
		}
		if slices.Contains(l[:i], n) {
			return pan.Period{}, api.ErrTwice
		}
	}
	if !isCycle(w, l) {
		return pan.Period{}, api.ErrShape
	}
	return lowestTerms(period(timeOf(w, l))), api.OK
}

// TestP6_3_Holds: cycles, and lists that are none.
func TestP6_3_Holds(t *testing.T) {
	for i, x := range []struct {
		w     pan.Work
		cycle []int
		p     pan.Period
		want  api.Errno
	}{
		{workW(), list(0, 1, 2), period(75, 1), api.OK},
		{workW(), list(1, 2, 0), period(75, 1), api.OK},
		{workW(), list(2, 0, 1), period(75, 1), api.OK},
		{workW(), list(3), period(50, 1), api.OK},
		{workW(), list(1, 4), period(45, 1), api.OK},
		{workW(), nil, period(0, 0), api.ErrEmpty},
		{work(1), nil, period(0, 0), api.ErrEmpty},
		{work(1), list(0), period(0, 0), api.ErrNone},
		{workW(), list(5), period(0, 0), api.ErrNone},
		{workW(), list(-1), period(0, 0), api.ErrNone},
		{workW(), list(lowest), period(0, 0), api.ErrNone},
		{workW(), list(highest), period(0, 0), api.ErrNone},
		{workW(), list(0, 1, 2, 5), period(0, 0), api.ErrNone},
		{workW(), list(3, 3), period(0, 0), api.ErrTwice},
		{workW(), list(0, 1, 2, 0, 1, 2), period(0, 0), api.ErrTwice},
		// The first number with an error decides; a list is looked at only if no number has one.
		{workW(), list(0, 0, 9), period(0, 0), api.ErrTwice},
		{workW(), list(0, 9, 0), period(0, 0), api.ErrNone},
		{workW(), list(9, 9), period(0, 0), api.ErrNone},
		{workW(), list(0, 3, 0), period(0, 0), api.ErrTwice},
		{workW(), repeat(0, 1000), period(0, 0), api.ErrTwice},
		// Waits that do not follow each other, or not around.
		{workW(), list(0), period(0, 0), api.ErrShape},
		{workW(), list(0, 1), period(0, 0), api.ErrShape},
		{workW(), list(1, 2), period(0, 0), api.ErrShape},
		{workW(), list(2, 1, 0), period(0, 0), api.ErrShape},
		{workW(), list(0, 4), period(0, 0), api.ErrShape},
		// Waits that follow each other around, two of which have the same From.
		{workW(), list(0, 3, 1, 2), period(0, 0), api.ErrShape},
		{workW(), list(1, 4, 3), period(0, 0), api.ErrShape},
		{work(1, 0, 0, 0, 1, 1, 0, 0, 0, 1, 1), list(0, 1), period(0, 0), api.ErrShape},
		// Of parallel waits each one makes a cycle of its own.
		{work(2, 0, 1, 0, 5, 1, 0, 1, 0, 8, 2, 1, 0, 0, 1, 1), list(0, 2), period(3, 1), api.OK},
		{work(2, 0, 1, 0, 5, 1, 0, 1, 0, 8, 2, 1, 0, 0, 1, 1), list(2, 1), period(3, 1), api.OK},
		{work(2, 0, 1, 0, 5, 1, 0, 1, 0, 8, 2, 1, 0, 0, 1, 1), list(0, 1), period(0, 0), api.ErrShape},
		// Lowest terms, and what a wait takes at most.
		{work(2, 0, 1, 1, 6, 3, 1, 0, 1, 6, 1), list(0, 1), period(3, 1), api.OK},
		{work(2, 0, 1, 1, 6, 3, 1, 0, 1, 4, 1), list(1, 0), period(5, 2), api.OK},
		{work(1, 0, 0, 0, 0, 4), list(0), period(0, 1), api.OK},
	} {
		if p, e := pan.Holds(x.w, x.cycle); p != x.p || e != x.want {
			t.Errorf("%d: Holds of %v, %v = %v %d, want %v %d", i, x.w, x.cycle, p, e, x.p, x.want)
		}
	}
}

// TestP6_3_AllLists: all lists of up to 3 numbers, and all cycles.
func TestP6_3_AllLists(t *testing.T) {
	found := map[api.Errno]int{}
	check := func(w pan.Work, l []int) {
		want, wantError := holdsOf(w, l)
		found[wantError]++
		if p, e := pan.Holds(w, l); p != want || e != wantError {
			t.Fatalf("Holds of %v, %v = %v %d, want %v %d", w, l, p, e, want, wantError)
		}
	}
	smallWorks(4, 400, func(_ *rand.Rand, w pan.Work) {
		for length := range 4 {
			for l := range lists(length, -1, len(w.Waits)) {
				check(w, l)
			}
		}
	})
	manyWorks(5, func(r *rand.Rand, w pan.Work) {
		for cycle := range cyclesOf(w) {
			check(w, cycle)
			turn := r.IntN(len(cycle))
			check(w, slices.Concat(cycle[turn:], cycle[:turn]))
			check(w, cycle[1:])
		}
	})
	for _, e := range []api.Errno{api.OK, api.ErrEmpty, api.ErrNone, api.ErrTwice, api.ErrShape} {
		if found[e] < 100 {
			t.Errorf("found %v", found)
		}
	}
}

// TestP6_3_Hold: a cycle as slow as the pace, or ErrNone if it is 0.
func TestP6_3_Hold(t *testing.T) {
	found := map[api.Errno]int{}
	check := func(w pan.Work) {
		want := paceOf(w)
		cycle, e := pan.Hold(w)
		found[e]++
		if want.Num == 0 {
			if len(cycle) > 0 || e != api.ErrNone {
				t.Fatalf("Hold of %v = %v %d", w, cycle, e)
			}
			return
		}
		if e != api.OK || !isCycle(w, cycle) || lowestTerms(period(timeOf(w, cycle))) != want {
			t.Fatalf("Hold of %v = %v %d, but the pace is %v", w, cycle, e, want)
		}
	}
	for _, w := range []pan.Work{workW(), workU(), work(1), work(1, 0, 0, 0, 0, 1), work(1, 0, 0, 0, 1, 1), ring(9, 1),
		ring(10, 2), ring(3, 13), work(2, 0, 0, 0, 5, 1, 1, 1, 0, 5, 1)} {
		check(w)
	}
	manyWorks(6, func(_ *rand.Rand, w pan.Work) { check(w) })
	smallWorks(7, 1000, func(_ *rand.Rand, w pan.Work) { check(w) })
	if found[api.OK] < 1000 || found[api.ErrNone] < 100 {
		t.Errorf("found %v", found)
	}
}
