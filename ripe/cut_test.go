package ripe_test

import (
	"slices"
	"testing"

	"zafra/api"
	"zafra/ripe"
)

func TestP2_4_Peaks(t *testing.T) {
	for i, x := range []struct {
		field ripe.Field
		want  []int
	}{
		{chapterField(), list(1, 2, 3)},
		{field(1, 3, 9), list(0)},
		{field(4, 5, 5), list(0, 1, 2, 3)},
		{field(4, 0, 9), list(0, 1, 2, 3)},
		{field(3, 0, 100, 0, 50, 0, 1, 40, 0), list(0)},
		{field(3, 0, 100, 1, 40, 0, 2, 50, 0), list(2)},
		// A week that can only be as sweet as the others is one, too; with a bit less it is none.
		{field(3, 0, 100, 0, 50, 5, 1, 60, 5, 2, 50, 5), list(0, 1, 2)},
		{field(3, 0, 100, 0, 50, 5, 1, 60, 4, 2, 50, 5), list(1)},
		{field(3, 0, 100, 0, 50, 5, 1, 60, 4, 2, 50, 6), list(1, 2)},
		// A line from the low of the week 0 through the high of the week 2 is as great in the last week as the low of the
		// week 1; if the high is less by 1, it is not.
		{field(4, 0, 100, 0, 5, 0, 1, 5, 0, 2, 5, 0), list(0, 1, 2, 3)},
		{field(4, 0, 100, 0, 5, 0, 1, 5, 0, 2, 4, 0), list(0, 1)},
		{field(4, 0, 100, 3, 5, 0, 2, 5, 0, 1, 4, 0), list(2, 3)},
	} {
		if l, e := ripe.Peaks(x.field); !slices.Equal(l, x.want) || e != api.OK {
			t.Errorf("Peaks of field %d = %v %d, want %v", i, l, e, x.want)
		}
	}
}

func TestP2_4_Ripe(t *testing.T) {
	// Of one the weeks between have 33 and a third, and 36 and two thirds, at least; of the other one the last week
	// has 13 and a third at most.
	third, beyond := field(4, 0, 100, 0, 30, 0, 3, 40, 0), field(5, 0, 100, 0, 0, 0, 3, 10, 0, 1, 5, 5, 2, 5, 5)
	all, full := list(0, 1, 2, 3, 4), field(1, 30000, 30000)
	for i, x := range []struct {
		field           ripe.Field
		least           int
		surely, perhaps []int
	}{
		{chapterField(), 1300, list(2), list(1, 2, 3)},
		{chapterField(), 980, all, all},
		{chapterField(), 981, list(1, 2, 3, 4), all},
		{chapterField(), 1020, list(1, 2, 3, 4), all},
		{chapterField(), 1021, list(1, 2, 3, 4), list(1, 2, 3, 4)},
		{chapterField(), 1380, list(2), list(1, 2, 3)},
		{chapterField(), 1381, nil, list(1, 2, 3)},
		{chapterField(), 1640, nil, list(3)},
		{chapterField(), 1641, nil, nil},
		{chapterField(), 0, all, all},
		{chapterField(), -1, all, all},
		{chapterField(), -1 << 63, all, all},
		{chapterField(), 1<<63 - 1, nil, nil},
		// What is rounded is not what is compared.
		{third, 33, list(1, 2, 3), list(1, 2, 3)},
		{third, 34, list(2, 3), list(1, 2, 3)},
		{third, 36, list(2, 3), list(1, 2, 3)},
		{third, 37, list(3), list(1, 2, 3)},
		{beyond, 13, nil, list(4)},
		{beyond, 14, nil, nil},
		{full, 30000, list(0), list(0)},
		{full, 30001, nil, nil},
	} {
		s, p, e := ripe.Ripe(x.field, x.least)
		if !slices.Equal(s, x.surely) || !slices.Equal(p, x.perhaps) || e != api.OK {
			t.Errorf("Ripe %d = %v %v %d, want %v %v", i, s, p, e, x.surely, x.perhaps)
		}
	}
}

func TestP2_4_Errors(t *testing.T) {
	for i, x := range append(badFields(), clashes()...) {
		if l, e := ripe.Peaks(x.field); len(l) != 0 || e != x.want {
			t.Errorf("Peaks of field %d = %v %d, want %d", i, l, e, x.want)
		}
		for _, least := range []int{-1 << 63, 0, 1<<63 - 1} {
			if s, p, e := ripe.Ripe(x.field, least); len(s) != 0 || len(p) != 0 || e != x.want {
				t.Errorf("Ripe of field %d = %v %v %d, want %d", i, s, p, e, x.want)
			}
		}
	}
}

func TestP2_5_Regret(t *testing.T) {
	for i, x := range []struct {
		field   ripe.Field
		regrets []int
		cut     int
	}{
		{chapterField(), list(660, 440, 220, 250, 470), 2},
		{field(1, 3, 9), list(0), 0},
		{field(2, 3, 9), list(6, 6), 0},
		{field(3, 0, 10), list(10, 5, 10), 1},
		{field(4, 0, 9), list(9, 6, 6, 9), 1},
		{field(5, 4, 4), list(0, 0, 0, 0, 0), 0},
		{field(3, 0, 100, 0, 50, 0, 1, 40, 0), list(0, 10, 50), 0},
		{field(3, 0, 100, 1, 40, 0, 2, 50, 0), list(50, 10, 0), 2},
		{field(4, 0, 100, 0, 30, 0, 3, 40, 0), list(70, 35, 30, 60), 2},
	} {
		if l := regrets(x.field); !slices.Equal(l, x.regrets) {
			t.Errorf("regrets of field %d = %v, want %v", i, l, x.regrets)
		}
		week, regret, e := ripe.Cut(x.field)
		if week != x.cut || regret != slices.Min(x.regrets) || e != api.OK {
			t.Errorf("Cut of field %d = %d %d %d, want %d", i, week, regret, e, x.cut)
		}
	}
}

func TestP2_5_Errors(t *testing.T) {
	const high, low = 1<<63 - 1, -1 << 63
	for i, x := range append(badFields(), clashes()...) {
		for _, week := range []int{low, -1, 0, 99} {
			if n, e := ripe.Regret(x.field, week); n != 0 || e != x.want {
				t.Errorf("Regret of field %d, week %d = %d %d, want %d", i, week, n, e, x.want)
			}
		}
		if week, regret, e := ripe.Cut(x.field); week != 0 || regret != 0 || e != x.want {
			t.Errorf("Cut of field %d = %d %d %d, want %d", i, week, regret, e, x.want)
		}
	}
	for _, week := range []int{low, -1, 5, 30, high} {
		if n, e := ripe.Regret(chapterField(), week); n != 0 || e != api.ErrNone {
			t.Errorf("Regret of the week %d = %d %d", week, n, e)
		}
	}
}

// TestP2_5_CutBeforeRounding has regrets that differ by less than one, so that they are the same when rounded.
func TestP2_5_CutBeforeRounding(t *testing.T) {
	later := 0
	manyFields(300, 7, func(f ripe.Field) {
		if !possible(f) {
			return
		}
		p := programOf(f)
		best := 0
		for week := range f.Weeks {
			if p.regret(week).Cmp(p.regret(best)) < 0 {
				best = week
			}
		}
		want := up(p.regret(best))
		if week, regret, e := ripe.Cut(f); week != best || regret != want || e != api.OK {
			t.Fatalf("Cut of %v = %d %d %d, want %d %d", f, week, regret, e, best, want)
		}
		if slices.Index(regrets(f), want) < best {
			later++
		}
	})
	if later < 20 {
		t.Errorf("only %d had an earlier week with the same regret when rounded", later)
	}
}
