package pan_test

import (
	"math/rand/v2"
	"testing"

	"zafra/api"
	"zafra/pan"
)

// TestP6_2_Pace: the pace is that of the slowest cycle, in lowest terms.
func TestP6_2_Pace(t *testing.T) {
	for i, x := range []struct {
		w    pan.Work
		want pan.Period
	}{
		{workW(), period(75, 1)},
		{workU(), period(50, 1)},
		// Without a cycle, or with cycles that take no time, the pace is 0.
		{work(1), period(0, 1)},
		{work(10), period(0, 1)},
		{work(3, 0, 1, 5, 9, 0, 1, 2, 5, 9, 3, 0, 2, 5, 9, 1), period(0, 1)},
		{work(1, 0, 0, 0, 0, 3), period(0, 1)},
		{work(2, 0, 1, 0, 0, 0, 1, 0, 0, 0, 2), period(0, 1)},
		// Only what a wait takes at most counts.
		{work(1, 0, 0, 0, 1, 1), period(1, 1)},
		{work(1, 0, 0, 8, 9, 1, 0, 0, 0, 10, 1), period(10, 1)},
		// Fractions that have lower terms, and those that have not.
		{work(1, 0, 0, 0, 7, 3), period(7, 3)},
		{work(1, 0, 0, 0, 6, 4), period(3, 2)},
		{work(1, 0, 0, 0, 8, 4), period(2, 1)},
		{work(2, 0, 1, 0, 5, 3, 1, 0, 0, 4, 3), period(3, 2)},
		// Of two fractions that are near to each other the greater one.
		{work(2, 0, 0, 0, 3333, 1, 1, 1, 0, 9999, 3), period(3333, 1)},
		{work(2, 0, 0, 0, 3333, 1, 1, 1, 0, 10000, 3), period(10000, 3)},
		{work(2, 0, 0, 0, 2501, 1, 1, 1, 0, 10000, 4), period(2501, 1)},
		{work(2, 0, 0, 0, 2499, 1, 1, 1, 0, 9997, 4), period(9997, 4)},
		// A cycle that takes longer can be faster.
		{work(2, 0, 0, 0, 10, 1, 0, 1, 0, 1000, 4, 1, 0, 0, 1000, 4), period(250, 1)},
		{work(2, 0, 0, 0, 300, 1, 0, 1, 0, 1000, 4, 1, 0, 0, 1000, 4), period(300, 1)},
		// Cycles that have no step together.
		{work(4, 0, 1, 0, 8, 1, 1, 0, 0, 8, 0, 2, 3, 0, 9, 1, 3, 2, 0, 8, 0), period(17, 1)},
		{work(4, 0, 1, 0, 9, 1, 1, 0, 0, 9, 0, 2, 3, 0, 9, 1, 3, 2, 0, 8, 0), period(18, 1)},
		// The most steps, waits, minutes, and strikes.
		{ring(10, 4), period(103, 1)},
		{ring(1, 40), period(139, 1)},
		{work(1, 0, 0, 10000, 10000, 1), period(10000, 1)},
		{work(10, 0, 1, 0, 10000, 0, 1, 2, 0, 10000, 0, 2, 3, 0, 10000, 0, 3, 4, 0, 10000, 0, 4, 5, 0, 10000, 0,
			5, 6, 0, 10000, 0, 6, 7, 0, 10000, 0, 7, 8, 0, 10000, 0, 8, 9, 0, 10000, 0, 9, 0, 0, 10000, 1), period(100000, 1)},
		{work(10, 0, 1, 0, 1, 4, 1, 2, 0, 0, 4, 2, 3, 0, 0, 4, 3, 4, 0, 0, 4, 4, 5, 0, 0, 4,
			5, 6, 0, 0, 4, 6, 7, 0, 0, 4, 7, 8, 0, 0, 4, 8, 9, 0, 0, 4, 9, 0, 0, 0, 4), period(1, 40)},
	} {
		if p, e := pan.Pace(x.w); p != x.want || e != api.OK {
			t.Errorf("%d: Pace of %v = %v %d, want %v", i, x.w, p, e, x.want)
		}
	}
}

// TestP6_2_AllCycles: the pace is the period of the slowest one of all cycles, in lowest terms.
func TestP6_2_AllCycles(t *testing.T) {
	zero, fractions := 0, 0
	manyWorks(2, func(_ *rand.Rand, w pan.Work) {
		want := paceOf(w)
		if want.Num == 0 {
			zero++
		}
		if want.Den > 1 {
			fractions++
		}
		if p, e := pan.Pace(w); p != want || e != api.OK {
			t.Fatalf("Pace of %v = %v %d, want %v", w, p, e, want)
		}
	})
	if zero < 50 || fractions < 200 {
		t.Errorf("%d paces were 0, %d were fractions", zero, fractions)
	}
}

// TestP6_2_Kept: periods at the pace, just below it and above it, and at their bounds.
func TestP6_2_Kept(t *testing.T) {
	third := work(1, 0, 0, 0, 10000, 3)
	for i, x := range []struct {
		w    pan.Work
		p    pan.Period
		kept bool
		want api.Errno
	}{
		{workW(), period(75, 1), true, api.OK},
		{workW(), period(74, 1), false, api.OK},
		{workW(), period(150, 2), true, api.OK},
		{workW(), period(149, 2), false, api.OK},
		{workW(), period(75000, 1000), true, api.OK},
		{workW(), period(74999, 1000), false, api.OK},
		{workW(), period(75001, 1000), true, api.OK},
		{workU(), period(50, 1), true, api.OK},
		{workU(), period(49, 1), false, api.OK},
		{third, period(10000, 3), true, api.OK},
		{third, period(3333, 1), false, api.OK},
		{third, period(3334, 1), true, api.OK},
		{third, period(3329999, 999), false, api.OK},
		{third, period(3330000, 999), true, api.OK},
		{third, period(3333333, 1000), false, api.OK},
		{third, period(3333334, 1000), true, api.OK},
		{work(1), period(0, 1), true, api.OK},
		{work(1), period(0, 1000), true, api.OK},
		{work(2, 0, 1, 10000, 10000, 0), period(0, 1000), true, api.OK},
		{work(1, 0, 0, 0, 1, 4), period(0, 1), false, api.OK},
		{work(1, 0, 0, 0, 1, 4), period(0, 1000), false, api.OK},
		{work(1, 0, 0, 0, 1, 4), period(249, 1000), false, api.OK},
		{work(1, 0, 0, 0, 1, 4), period(250, 1000), true, api.OK},
		{workW(), period(1000000000, 1), true, api.OK},
		{workW(), period(1000000000, 1000), true, api.OK},
		{workW(), period(1, 1000), false, api.OK},
		{workW(), period(1000000001, 1), false, api.ErrRange},
		{workW(), period(-1, 1), false, api.ErrRange},
		{workW(), period(75, 0), false, api.ErrRange},
		{workW(), period(75, -1), false, api.ErrRange},
		{workW(), period(75000, 1001), false, api.ErrRange},
		{workW(), period(lowest, 1), false, api.ErrRange},
		{workW(), period(highest, 1), false, api.ErrRange},
		{workW(), period(75, lowest), false, api.ErrRange},
		{workW(), period(75, highest), false, api.ErrRange},
		{work(1), period(0, 0), false, api.ErrRange},
	} {
		if kept, e := pan.Kept(x.w, x.p); kept != x.kept || e != x.want {
			t.Errorf("%d: Kept of %v, %v = %v %d, want %v %d", i, x.w, x.p, kept, e, x.kept, x.want)
		}
	}
}

// near returns periods that are near to another one, or just as long, with a Den of up to 1000.
func near(r *rand.Rand, p pan.Period) []pan.Period {
	times := 1 + r.IntN(1000/p.Den)
	den := 1 + r.IntN(1000)
	least := p.Num * den / p.Den
	l := []pan.Period{p, period(p.Num*times, p.Den*times), period(p.Num*times+1, p.Den*times), period(least+1, den),
		period(least, den), period(r.IntN(2*least+1), den)}
	if p.Num > 0 {
		l = append(l, period(p.Num*times-1, p.Den*times))
	}
	return l
}

// TestP6_2_AllWays: a period can be kept just if no way from step to step makes a step wait for itself.
func TestP6_2_AllWays(t *testing.T) {
	found := map[bool]int{}
	manyWorks(3, func(r *rand.Rand, w pan.Work) {
		for _, p := range near(r, mustPace(t, w)) {
			_, want := longestWays(w, p)
			found[want]++
			if kept, e := pan.Kept(w, p); kept != want || e != api.OK {
				t.Fatalf("Kept of %v, %v = %v %d", w, p, kept, e)
			}
		}
	})
	if min(found[true], found[false]) < 1000 {
		t.Errorf("found %v", found)
	}
}
