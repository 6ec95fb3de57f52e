package sour_test

import (
	"math/rand/v2"
	"testing"

	"zafra/api"
	"zafra/sour"
)

func TestP4_5_Delay(t *testing.T) {
	l := chapterLine()
	only := func(green ...int) sour.Line {
		return changed(func(l *sour.Line) { l.Kinds = []sour.Kind{nil, kind(green...)} })
	}
	for i, x := range []struct {
		line  sour.Line
		order []int
		limit int
		want  int
	}{
		{sour.Line{}, nil, 0, api.Never}, {sour.Line{}, nil, sour.MaxSour, api.Never},
		{l, list(0, 2, 1), 50, 69}, {l, list(0, 2, 1), 51, 69}, {l, list(0, 2, 1), 89, 69},
		{l, list(0, 2, 1), 90, api.Never}, {l, list(0, 2, 1), sour.MaxSour, api.Never},
		{l, list(0, 1, 2), 90, api.Never},
		{single(l), list(2, 0, 1), 20, 169}, {single(l), list(2, 0, 1), 29, 169}, {single(l), list(2, 0, 1), 49, 169},
		{single(l), list(2, 0, 1), 50, 269}, {single(l), list(2, 0, 1), 89, 269}, {single(l), list(2, 0, 1), 90, api.Never},
		// The load 1 alone sours: it was cut 1330 minutes ago at its end.
		{only(1331, 5), list(0, 2, 1), 4, 0}, {only(1332, 5), list(0, 2, 1), 0, 1}, {only(1331, 5), list(0, 2, 1), 5, api.Never},
		{only(1330, 5), list(0, 2, 1), 5, api.Never}, {only(1330, 5, 1331, 6), list(0, 2, 1), 5, 0},
		{only(1330, 5, 1400, 6, 1500, 9), list(0, 2, 1), 5, 69}, {only(1330, 5, 1400, 6, 1500, 9), list(0, 2, 1), 6, 169},
		// Longer than the mill can be given as its Start.
		{only(sour.MaxMinutes, 1), list(0, 2, 1), 0, sour.MaxMinutes - 1331},
		{changed(func(l *sour.Line) { l.Kinds, l.Start = make([]sour.Kind, 2), span(0, sour.MaxMinutes) }), list(0, 2, 1), 0, api.Never},
	} {
		if d, e := sour.Delay(x.line, x.order, x.limit); d != x.want || e != api.OK {
			t.Errorf("Delay %d = %d %d, want %d", i, d, e, x.want)
		}
	}
}

// TestP4_5_Start: the Start that the delay leads to can be beyond MaxMinutes.
func TestP4_5_Start(t *testing.T) {
	l := sour.Line{
		Kinds: []sour.Kind{kind(sour.MaxMinutes, 5)}, Loads: []sour.Load{{Age: point(0), Crush: point(1)}}, Tracks: [][]int{{0}},
		Start: point(sour.MaxMinutes - 2),
	}
	if d, e := sour.Delay(l, list(0), 0); d != 0 || e != api.OK {
		t.Errorf("Delay = %d %d", d, e)
	}
	l.Start = span(0, sour.MaxMinutes)
	if d, e := sour.Delay(l, list(0), 5); d != api.Never || e != api.OK {
		t.Errorf("Delay = %d %d", d, e)
	}
}

func TestP4_5_Errors(t *testing.T) {
	for i, x := range []struct {
		order []int
		limit int
		want  api.Errno
	}{
		{nil, -1, api.ErrShape}, {list(0, 2), 90, api.ErrShape}, {list(0, 9, 2), -1, api.ErrNone},
		{list(0, 0, 2), -1, api.ErrTwice}, {list(2, 0, 1), 5, api.ErrRule}, {list(2, 0, 1), -1, api.ErrRule},
		{list(0, 2, 1), -1, api.ErrRange}, {list(0, 2, 1), sour.MaxSour + 1, api.ErrRange},
		{list(0, 2, 1), lowest, api.ErrRange}, {list(0, 2, 1), highest, api.ErrRange},
		{list(0, 2, 1), 49, api.ErrOver}, {list(0, 2, 1), 0, api.ErrOver}, {list(0, 1, 2), 89, api.ErrOver},
	} {
		if d, e := sour.Delay(chapterLine(), x.order, x.limit); d != 0 || e != x.want {
			t.Errorf("Delay %d = %d %d, want %d", i, d, e, x.want)
		}
	}
}

// limitsOf returns limits that are near to how sour a line can become, and some other ones.
func limitsOf(r *rand.Rand, l sour.Line, worst int) []int {
	limits := list(0, sour.MaxSour, max(0, worst-1), worst, min(sour.MaxSour, worst+1), r.IntN(sour.MaxSour+1))
	for _, k := range l.Kinds {
		for _, step := range k {
			limits = append(limits, step.Sour-1, step.Sour)
		}
	}
	return limits
}

// TestP4_9_Later: with the delay no load becomes sourer than the limit, and a minute later one can (P4.5, P4.9).
func TestP4_9_Later(t *testing.T) {
	delays, never, over := 0, 0, 0
	manyLines(9, sour.MaxLoads, func(r *rand.Rand, l sour.Line) {
		order := anyOrder(r, l)
		worst := worstOf(l, order, 0)
		for _, limit := range limitsOf(r, l, worst) {
			d, e := sour.Delay(l, order, limit)
			switch {
			case worst > limit:
				over++
				if d != 0 || e != api.ErrOver {
					t.Fatalf("Delay of %v, %v and %d = %d %d, the worst is %d", l, order, limit, d, e, worst)
				}
			case d == api.Never:
				never++
				// All steps are reached by then.
				if w := worstOf(l, order, sour.MaxMinutes); w > limit || e != api.OK {
					t.Fatalf("Delay of %v, %v and %d = %d %d, at last it is %d", l, order, limit, d, e, w)
				}
			default:
				delays++
				w, next := worstOf(l, order, d), worstOf(l, order, d+1)
				if d < 0 || w > limit || next <= limit || e != api.OK {
					t.Fatalf("Delay of %v, %v and %d = %d %d: %d, a minute later %d", l, order, limit, d, e, w, next)
				}
			}
		}
	})
	if min(delays, never, over) < 300 {
		t.Errorf("%d delays, %d without end, %d limits passed", delays, never, over)
	}
}

// TestP4_9_Worst: Worst says the same of a mill that begins later, as far as its Start can be given.
func TestP4_9_Worst(t *testing.T) {
	given := 0
	manyLines(99, sour.MaxLoads, func(r *rand.Rand, l sour.Line) {
		order := anyOrder(r, l)
		limit := worstOf(l, order, 0)
		d, e := sour.Delay(l, order, limit)
		if e != api.OK || l.Start.Hi+d+1 > sour.MaxMinutes {
			return
		}
		given++
		later := func(d int) int {
			l := cloneLine(l)
			l.Start = span(l.Start.Lo+d, l.Start.Hi+d)
			worst, e := sour.Worst(l, order)
			if e != api.OK {
				t.Fatalf("Worst of %v = %d", l, e)
			}
			return worst
		}
		if w, next := later(d), later(d+1); w != limit || next <= limit {
			t.Fatalf("Delay of %v, %v and %d = %d: %d, a minute later %d", l, order, limit, d, w, next)
		}
	})
	if given < 100 {
		t.Errorf("only %d delays can be given", given)
	}
}
