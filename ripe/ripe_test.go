package ripe_test

import (
	"slices"
	"testing"

	"zafra/api"
	"zafra/ripe"
)

func TestP2_1_CheckOK(t *testing.T) {
	const most = ripe.MaxSweet
	full := field(ripe.MaxWeeks, 0, most)
	for i := range ripe.MaxSamples {
		full.Samples = append(full.Samples, ripe.Sample{Week: i % ripe.MaxWeeks, Value: i, Off: most})
	}
	for i, f := range []ripe.Field{
		chapterField(), clashField(), full, field(1, 0, 0), field(1, most, most), field(ripe.MaxWeeks, 0, most),
		field(2, 3, 4, 0, 0, 0, 1, most, most, 1, 0, most, 0, most, 0),
	} {
		if e := ripe.Check(f); e != api.OK {
			t.Errorf("Check of field %d = %d", i, e)
		}
	}
}

func TestP2_1_CheckErrors(t *testing.T) {
	for i, x := range badFields() {
		if e := ripe.Check(x.field); e != x.want {
			t.Errorf("Check of field %d = %d, want %d", i, e, x.want)
		}
	}
}

// TestP2_1_CheckBounds tries the bounds of each number.
func TestP2_1_CheckBounds(t *testing.T) {
	for n, ok := range map[int]bool{-1 << 63: false, -1: false, 0: true, 30000: true, 30001: false, 1<<63 - 1: false} {
		want := api.ErrRange
		if ok {
			want = api.OK
		}
		for i, f := range []ripe.Field{
			field(1, n, max(n, 30000)), field(1, min(n, 0), n), field(1, 0, 9, 0, n, 0), field(1, 0, 9, 0, 0, n),
		} {
			if e := ripe.Check(f); e != want {
				t.Errorf("Check %d with %d = %d, want %d", i, n, e, want)
			}
		}
	}
	for weeks := -1; weeks <= 32; weeks++ {
		if e := ripe.Check(field(weeks, 0, 9)); (e == api.OK) != (weeks >= 1 && weeks <= 30) {
			t.Errorf("Check with %d weeks = %d", weeks, e)
		}
		if e := ripe.Check(field(20, 0, 9, weeks, 0, 0)); (e == api.OK) != (weeks >= 0 && weeks < 20) {
			t.Errorf("Check with a sample of the week %d = %d", weeks, e)
		}
	}
}

func TestP2_2_Known(t *testing.T) {
	for i, x := range []struct {
		field ripe.Field
		want  []api.Span
	}{
		{chapterField(), []api.Span{span(980, 1020), span(1180, 1545), span(1380, 1420), span(1275, 1640), span(1170, 1230)}},
		{field(1, 3, 9), []api.Span{span(3, 9)}},
		{field(2, 3, 9), []api.Span{span(3, 9), span(3, 9)}},
		{field(1, 7, 7), []api.Span{span(7, 7)}},
		// The bounds of Range and of samples, on both sides.
		{field(1, 10, 20, 0, 15, 3), []api.Span{span(12, 18)}},
		{field(1, 10, 20, 0, 12, 5), []api.Span{span(10, 17)}},
		{field(1, 10, 20, 0, 18, 5), []api.Span{span(13, 20)}},
		{field(1, 10, 20, 0, 15, 5, 0, 14, 3, 0, 18, 4), []api.Span{span(14, 17)}},
		{field(1, 0, 30000, 0, 30000, 30000), []api.Span{span(0, 30000)}},
		// A high that is met exactly.
		{field(1, 10, 20, 0, 8, 2), []api.Span{span(10, 10)}},
		{field(1, 10, 20, 0, 22, 2), []api.Span{span(20, 20)}},
		// Two weeks are known: a line through them is above the weeks outside, and below those between.
		{field(4, 0, 100, 1, 30, 0, 2, 40, 0), []api.Span{span(0, 20), span(30, 30), span(40, 40), span(0, 50)}},
		{field(4, 0, 100, 0, 30, 0, 3, 40, 0), []api.Span{span(30, 30), span(33, 100), span(36, 100), span(40, 40)}},
		{field(4, 0, 100, 0, 40, 0, 3, 30, 0), []api.Span{span(40, 40), span(36, 100), span(33, 100), span(30, 30)}},
		// Thirds are rounded outward on both sides.
		{field(5, 0, 100, 0, 0, 0, 3, 10, 0), []api.Span{span(0, 0), span(3, 30), span(6, 20), span(10, 10), span(0, 14)}},
		{field(5, 0, 100, 4, 0, 0, 1, 10, 0), []api.Span{span(0, 14), span(10, 10), span(6, 20), span(3, 30), span(0, 0)}},
		// Lines from both sides.
		{field(5, 0, 100, 0, 10, 0, 1, 20, 0, 3, 20, 0, 4, 5, 0), []api.Span{span(10, 10), span(20, 20), span(20, 30), span(20, 20), span(5, 5)}},
	} {
		if l, e := ripe.Known(x.field); !slices.Equal(l, x.want) || e != api.OK {
			t.Errorf("Known of field %d = %v %d, want %v", i, l, e, x.want)
		}
	}
}

// TestP2_2_KnownLong has as many weeks as can be, so that fractions have their greatest numbers.
func TestP2_2_KnownLong(t *testing.T) {
	l, e := ripe.Known(field(30, 0, 30000, 0, 0, 0, 28, 29999, 0))
	if e != api.OK || len(l) != 30 {
		t.Fatalf("Known = %v %d", l, e)
	}
	for week, s := range l {
		want := span(29999*week/28, 30000)
		switch week {
		case 0:
			want = span(0, 0)
		case 28:
			want = span(29999, 29999)
		case 29:
			want = span(0, 30000)
		}
		if s != want {
			t.Errorf("Known, week %d = %v, want %v", week, s, want)
		}
	}
	l, _ = ripe.Known(field(30, 0, 30000, 0, 0, 0, 28, 28001, 0))
	if l[29] != span(0, 29002) || l[27] != span(27000, 30000) { // 28001*29/28 = 29001 and a bit
		t.Errorf("Known = %v", l)
	}
}

func TestP2_2_KnownErrors(t *testing.T) {
	for i, x := range append(badFields(), clashes()...) {
		if l, e := ripe.Known(x.field); len(l) != 0 || e != x.want {
			t.Errorf("Known of field %d = %v %d, want %d", i, l, e, x.want)
		}
	}
}
