package pan_test

import (
	"math/rand/v2"
	"slices"
	"testing"

	"zafra/api"
	"zafra/pan"
)

// spans returns rows of so many spans: two numbers for each.
func spans(steps int, l ...int) [][]api.Span {
	var rows [][]api.Span
	for row := range slices.Chunk(l, 2*steps) {
		var spans []api.Span
		for pair := range slices.Chunk(row, 2) {
			spans = append(spans, span(pair[0], pair[1]))
		}
		rows = append(rows, spans)
	}
	return rows
}

func sameRuns(a, b [][]api.Span) bool { return slices.EqualFunc(a, b, slices.Equal[[]api.Span]) }

// TestP6_5_Runs: the first strikes of works.
func TestP6_5_Runs(t *testing.T) {
	for i, x := range []struct {
		w       pan.Work
		strikes int
		want    [][]api.Span
	}{
		{workW(), 0, nil},
		{workW(), 1, spans(3, 0, 0, 30, 40, 50, 60)},
		{workW(), 2, spans(3, 0, 0, 30, 40, 50, 60, 60, 75, 90, 115, 110, 135)},
		{workU(), 3, spans(3, 0, 0, 30, 40, 50, 60, 0, 0, 80, 90, 100, 110, 0, 0, 130, 140, 150, 160)},
		{work(2), 3, spans(2, 0, 0, 0, 0, 0, 0, 0, 0, 0, 0, 0, 0)},
		// Strikes before the first one do not hold up; each distance back is counted from the strike itself.
		{work(1, 0, 0, 3, 7, 1), 3, spans(1, 0, 0, 3, 7, 6, 14)},
		{work(1, 0, 0, 3, 7, 2), 5, spans(1, 0, 0, 0, 0, 3, 7, 3, 7, 6, 14)},
		{work(1, 0, 0, 3, 7, 3), 7, spans(1, 0, 0, 0, 0, 0, 0, 3, 7, 3, 7, 3, 7, 6, 14)},
		{work(1, 0, 0, 3, 7, 4), 9, spans(1, 0, 0, 0, 0, 0, 0, 0, 0, 3, 7, 3, 7, 3, 7, 3, 7, 6, 14)},
		// Waits of the same strike, in whatever order they and their steps have numbers.
		{work(3, 0, 1, 1, 2, 0, 1, 2, 3, 5, 0), 1, spans(3, 0, 0, 1, 2, 4, 7)},
		{work(3, 1, 0, 1, 2, 0, 2, 1, 3, 5, 0), 1, spans(3, 4, 7, 3, 5, 0, 0)},
		{work(4, 2, 0, 1, 1, 0, 0, 3, 1, 1, 0, 1, 2, 1, 1, 0), 1, spans(4, 2, 2, 0, 0, 1, 1, 3, 3)},
		// The greatest demand decides, at each end by itself.
		{work(2, 0, 1, 4, 5, 0, 0, 1, 1, 9, 0), 2, spans(2, 0, 0, 4, 9, 0, 0, 4, 9)},
		{work(2, 0, 1, 4, 5, 0, 0, 1, 1, 9, 1), 2, spans(2, 0, 0, 4, 5, 0, 0, 4, 9)},
		{work(2, 0, 0, 10, 10, 1, 0, 1, 5, 5, 0, 0, 1, 12, 17, 1), 3, spans(2, 0, 0, 5, 5, 10, 10, 15, 17, 20, 20, 25, 27)},
		{work(1, 0, 0, 10, 10, 4, 0, 0, 1, 1, 1), 6, spans(1, 0, 0, 1, 1, 2, 2, 3, 3, 10, 10, 11, 11)},
	} {
		if runs, e := pan.Runs(x.w, x.strikes); !sameRuns(runs, x.want) || e != api.OK {
			t.Errorf("%d: Runs of %v, %d strikes = %v %d, want %v", i, x.w, x.strikes, runs, e, x.want)
		}
	}
}

// TestP6_5_Bounds: how many strikes there may be.
func TestP6_5_Bounds(t *testing.T) {
	for i, x := range []struct {
		strikes int
		want    api.Errno
	}{{-1, api.ErrRange}, {0, api.OK}, {200, api.OK}, {201, api.ErrRange}, {lowest, api.ErrRange}, {highest, api.ErrRange}} {
		runs, e := pan.Runs(workW(), x.strikes)
		if e != x.want || e == api.OK && len(runs) != x.strikes || e != api.OK && len(runs) > 0 {
			t.Errorf("%d: Runs of %d strikes has %d, %d, want %d", i, x.strikes, len(runs), e, x.want)
		}
	}
	last := mustRun(t, work(2, 0, 1, 9999, 10000, 0, 1, 0, 9999, 10000, 1), 200)[199]
	if want := spans(2, 2*199*9999, 2*199*10000, 399*9999, 399*10000)[0]; !slices.Equal(last, want) {
		t.Errorf("the last strike is %v, want %v", last, want)
	}
}

// ends returns the spans of two truths.
func ends(least, most [][]int) [][]api.Span {
	var rows [][]api.Span
	for strike := range least {
		var row []api.Span
		for step := range least[strike] {
			row = append(row, span(least[strike][step], most[strike][step]))
		}
		rows = append(rows, row)
	}
	return rows
}

// TestP6_5_AllTruths: of small works, the least and the greatest beginnings of all truths.
func TestP6_5_AllTruths(t *testing.T) {
	apart := 0
	r := rand.New(rand.NewPCG(6, 11))
	for range 400 {
		w := freeWork(r, 3, 3, 3)
		for n := range w.Waits {
			w.Waits[n].Takes.Hi = min(w.Waits[n].Takes.Hi, w.Waits[n].Takes.Lo+1)
		}
		const strikes = 3
		var least, most [][]int
		for l := range lists(strikes*len(w.Waits), 0, 1) {
			all := beginnings(w, strikes, func(strike, wait int) int {
				takes := w.Waits[wait].Takes
				return min(takes.Hi, takes.Lo+l[strike*len(w.Waits)+wait])
			})
			if least == nil {
				least, most = beginnings(w, strikes, allMost(w)), beginnings(w, strikes, allLeast(w))
			}
			for strike := range all {
				for step, minute := range all[strike] {
					least[strike][step] = min(least[strike][step], minute)
					most[strike][step] = max(most[strike][step], minute)
				}
			}
		}
		want := ends(least, most)
		if runs := mustRun(t, w, strikes); !sameRuns(runs, want) {
			t.Fatalf("Runs of %v = %v, want %v", w, runs, want)
		}
		if slices.ContainsFunc(want[strikes-1], func(s api.Span) bool { return s.Hi > s.Lo+1 }) {
			apart++
		}
	}
	if apart < 50 {
		t.Errorf("only %d works have ends that are apart", apart)
	}
}

// TestP6_5_AllSizes: of works of all sizes, the beginnings if all takes as little or as much as it can.
func TestP6_5_AllSizes(t *testing.T) {
	manyWorks(12, func(r *rand.Rand, w pan.Work) {
		strikes := r.IntN(60)
		want := ends(beginnings(w, strikes, allLeast(w)), beginnings(w, strikes, allMost(w)))
		if runs := mustRun(t, w, strikes); !sameRuns(runs, want) {
			t.Fatalf("Runs of %v, %d strikes = %v, want %v", w, strikes, runs, want)
		}
	})
}
