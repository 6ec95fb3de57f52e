package pan_test

import (
	"math/rand/v2"
	"slices"
	"testing"

	"zafra/api"
	"zafra/pan"
)

// TestP6_4_Table: timetables, in minutes times the Den of the pace.
func TestP6_4_Table(t *testing.T) {
	for i, x := range []struct {
		w    pan.Work
		want []int
	}{
		{workW(), list(0, 40, 60)},
		{workU(), list(0, 40, 60)},
		{work(1), list(0)},
		{work(10), repeat(0, 10)},
		{work(3, 0, 1, 1, 5, 0, 1, 2, 1, 6, 0), list(0, 5, 11)},
		{work(3, 2, 1, 1, 5, 0, 1, 0, 1, 6, 0), list(11, 5, 0)},
		// Without a cycle the pace is 0, and strikes back do not help.
		{work(3, 2, 1, 1, 5, 4, 1, 0, 1, 6, 3), list(11, 5, 0)},
		// The longest one of several ways.
		{work(3, 0, 1, 0, 5, 0, 1, 2, 0, 5, 0, 0, 2, 0, 9, 0), list(0, 5, 10)},
		{work(3, 0, 1, 0, 5, 0, 1, 2, 0, 5, 0, 0, 2, 0, 11, 0), list(0, 5, 11)},
		// A wait that goes back gives no more time than the pace does.
		{work(3, 0, 0, 0, 7, 1, 0, 1, 0, 10, 1, 1, 2, 0, 10, 2), list(0, 3, 0)},
		// Fractions: 7 / 3, and 15 / 4 for a cycle of 7 and 8.
		{work(2, 0, 0, 0, 7, 3, 0, 1, 0, 5, 0), list(0, 15)},
		{work(2, 0, 0, 0, 7, 3, 0, 1, 0, 5, 1), list(0, 8)},
		{work(2, 0, 1, 0, 7, 0, 1, 0, 0, 8, 4), list(0, 28)},
		{work(2, 0, 1, 0, 7, 1, 1, 0, 0, 8, 3), list(0, 13)},
		{work(2, 0, 1, 0, 7, 4, 1, 0, 0, 8, 0), list(32, 0)},
		// 6 / 4 is 3 / 2 in lowest terms, and the table is that of 3 / 2.
		{work(2, 0, 0, 0, 6, 4, 0, 1, 0, 5, 0), list(0, 10)},
		{work(10, 0, 1, 0, 10000, 0, 1, 2, 0, 10000, 0, 2, 3, 0, 10000, 0, 3, 4, 0, 10000, 0, 4, 5, 0, 10000, 0,
			5, 6, 0, 10000, 0, 6, 7, 0, 10000, 0, 7, 8, 0, 10000, 0, 8, 9, 0, 10000, 0, 9, 0, 0, 9999, 4),
			list(0, 40000, 80000, 120000, 160000, 200000, 240000, 280000, 320000, 360000)},
	} {
		if table, e := pan.Table(x.w); !slices.Equal(table, x.want) || e != api.OK {
			t.Errorf("%d: Table of %v = %v %d, want %v", i, x.w, table, e, x.want)
		}
	}
}

// leastOfAll returns the timetable whose numbers are each at most those of every other one, by looking at all that have
// no number above the given one, or nil if there is none.
func leastOfAll(w pan.Work, p pan.Period, most int) []int {
	var least []int
	for table := range lists(w.Steps, 0, most) {
		if !keeps(w, p, table) {
			continue
		}
		if least == nil {
			least = slices.Clone(table)
		}
		for step := range least {
			least[step] = min(least[step], table[step])
		}
	}
	return least
}

// TestP6_4_AllTables: of all timetables of small works, the one with the least numbers; and no period below the pace has
// one (P6.2).
func TestP6_4_AllTables(t *testing.T) {
	kept := map[bool]int{}
	smallWorks(8, 600, func(r *rand.Rand, w pan.Work) {
		pace := mustPace(t, w)
		// From one step to the other ones there are 2 waits at most, of 3 minutes each.
		want := leastOfAll(w, pace, 6*pace.Den)
		if table := mustTable(t, w); !slices.Equal(table, want) || !keeps(w, pace, want) {
			t.Fatalf("Table of %v = %v, want %v", w, table, want)
		}
		p := period(r.IntN(6), 1+r.IntN(2))
		has := leastOfAll(w, p, 6*p.Den) != nil
		kept[has]++
		if is, e := pan.Kept(w, p); is != has || e != api.OK {
			t.Fatalf("Kept of %v, %v = %v %d", w, p, is, e)
		}
	})
	if min(kept[true], kept[false]) < 100 {
		t.Errorf("kept: %v", kept)
	}
}

// TestP6_4_AllWays: in the table each step begins as early as the longest way to it lets it.
func TestP6_4_AllWays(t *testing.T) {
	waiting := 0
	manyWorks(9, func(_ *rand.Rand, w pan.Work) {
		want, can := leastTable(w, mustPace(t, w))
		table := mustTable(t, w)
		if !can || !slices.Equal(table, want) {
			t.Fatalf("Table of %v = %v, want %v", w, table, want)
		}
		if slices.Max(table) > 0 {
			waiting++
		}
	})
	if waiting < 1000 {
		t.Errorf("in only %d tables a step waits", waiting)
	}
}

// verifyCase is arguments of Verify, and its result.
type verifyCase struct {
	w     pan.Work
	p     pan.Period
	table []int
	want  api.Errno
}

func checkVerify(t *testing.T, cases []verifyCase) {
	t.Helper()
	for i, x := range cases {
		if e := pan.Verify(x.w, x.p, x.table); e != x.want {
			t.Errorf("%d: Verify of %v, %v, %v = %d, want %d", i, x.w, x.p, x.table, e, x.want)
		}
	}
}

// TestP6_4_Verify: timetables that keep a period, and those that almost do.
func TestP6_4_Verify(t *testing.T) {
	checkVerify(t, []verifyCase{
		{workW(), period(75, 1), list(0, 40, 60), api.OK},
		{workW(), period(74, 1), list(0, 40, 60), api.ErrProof},
		{workW(), period(75, 1), list(0, 40, 59), api.ErrProof},
		{workW(), period(75, 1), list(0, 39, 60), api.ErrProof},
		{workW(), period(75, 1), list(0, 40, 61), api.ErrProof},
		{workW(), period(75, 1), list(1, 41, 61), api.OK},
		{workW(), period(150, 2), list(0, 80, 120), api.OK},
		{workW(), period(150, 2), list(0, 79, 120), api.ErrProof},
		{workW(), period(75000, 1000), list(0, 40000, 60000), api.OK},
		{workW(), period(76, 1), list(0, 41, 61), api.OK},
		{workW(), period(76, 1), list(0, 42, 61), api.ErrProof},
		{work(1), period(0, 1), list(0), api.OK},
		{work(1), period(0, 1000), list(1000000000), api.OK},
		{work(2, 0, 1, 10000, 10000, 0), period(0, 1000), list(0, 10000000), api.OK},
		{work(2, 0, 1, 10000, 10000, 0), period(0, 1000), list(0, 9999999), api.ErrProof},
		{work(2, 0, 1, 0, 10000, 4), period(1000000000, 1000), list(1000000000, 0), api.OK},
		// The wait at fault is the first one, the last one, or that of a step for itself.
		{work(3, 0, 1, 5, 5, 0, 1, 2, 5, 5, 0), period(0, 1), list(0, 4, 9), api.ErrProof},
		{work(3, 0, 1, 5, 5, 0, 1, 2, 5, 5, 0), period(0, 1), list(0, 5, 9), api.ErrProof},
		{work(3, 0, 1, 5, 5, 0, 1, 2, 5, 5, 0), period(0, 1), list(0, 5, 10), api.OK},
		{work(1, 0, 0, 5, 5, 1), period(4, 1), list(0), api.ErrProof},
		{work(1, 0, 0, 5, 5, 1), period(5, 1), list(7), api.OK},
	})
}

// TestP6_4_Errors: the other errors of Verify, at their bounds, one before the other.
func TestP6_4_Errors(t *testing.T) {
	checkVerify(t, []verifyCase{
		// The period.
		{workW(), period(-1, 1), list(0, 40, 60), api.ErrRange},
		{workW(), period(1000000001, 1), list(0, 40, 60), api.ErrRange},
		{workW(), period(1000000000, 1), list(0, 40, 60), api.OK},
		{workW(), period(75, 0), list(0, 40, 60), api.ErrRange},
		{workW(), period(75, -1), list(0, 40, 60), api.ErrRange},
		{workW(), period(75, 1001), list(0, 40, 60), api.ErrRange},
		{workW(), period(lowest, highest), list(0, 40, 60), api.ErrRange},
		{workW(), period(75, 0), list(0, 40), api.ErrRange},
		// How many numbers there are.
		{workW(), period(75, 1), nil, api.ErrShape},
		{workW(), period(75, 1), list(0, 40), api.ErrShape},
		{workW(), period(75, 1), list(0, 40, 60, 80), api.ErrShape},
		{workW(), period(75, 1), repeat(0, 11), api.ErrShape},
		{workW(), period(75, 1), list(-1, 40), api.ErrShape},
		// The numbers.
		{workW(), period(75, 1), list(-1, 40, 60), api.ErrRange},
		{workW(), period(75, 1), list(0, 40, -1), api.ErrRange},
		{workW(), period(75, 1), list(0, 0, 1000000001), api.ErrRange},
		{workW(), period(75, 1), list(999999940, 999999980, 1000000000), api.OK},
		{workW(), period(75, 1), list(999999940, 999999980, 1000000001), api.ErrRange},
		{workW(), period(75, 1), list(lowest, highest, 0), api.ErrRange},
		{workW(), period(0, 1), list(0, 0, highest), api.ErrRange},
	})
}

// TestP6_4_AllVerified: what is accepted is just what keeps a period.
func TestP6_4_AllVerified(t *testing.T) {
	found := map[api.Errno]int{}
	manyWorks(10, func(r *rand.Rand, w pan.Work) {
		for _, p := range near(r, mustPace(t, w)) {
			table, _ := leastTable(w, p)
			for range 3 {
				want := api.OK
				if !keeps(w, p, table) {
					want = api.ErrProof
				}
				found[want]++
				if e := pan.Verify(w, p, table); e != want {
					t.Fatalf("Verify of %v, %v, %v = %d, want %d", w, p, table, e, want)
				}
				step := r.IntN(w.Steps)
				table[step] = max(0, table[step]+r.IntN(5)-2)
			}
		}
	})
	if min(found[api.OK], found[api.ErrProof]) < 1000 {
		t.Errorf("found %v", found)
	}
}
