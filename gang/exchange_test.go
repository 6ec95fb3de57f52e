package gang_test

import (
	"math/rand/v2"
	"slices"
	"testing"

	"zafra/api"
	"zafra/gang"
)

// trade is an exchange with its gain, or an error.
type trade struct {
	from, to, gain int
	e              api.Errno
}

func exchange(l []gang.Field, gangs int, plan []int) trade {
	from, to, gain, e := gang.Exchange(l, gangs, plan)
	return trade{from, to, gain, e}
}

func TestP3_4_Exchange(t *testing.T) {
	none := trade{e: api.ErrNone}
	same := fields(list(5, 2), list(5, 2), list(5, 2))
	for i, x := range []struct {
		fields []gang.Field
		gangs  int
		plan   []int
		want   trade
	}{
		{nil, 0, nil, none}, {nil, 5, nil, none}, {fields(nil), 5, list(0), none},
		{chapterFields(), 4, list(3, 0, 1), trade{0, 1, 6, 0}},
		{chapterFields(), 4, list(2, 0, 2), trade{2, 1, 3, 0}},
		{chapterFields(), 4, list(2, 1, 1), none},
		{chapterFields(), 4, list(1, 2, 1), trade{1, 0, 4, 0}},
		{chapterFields(), 1, list(0, 0, 1), trade{2, 0, 4, 0}},
		{chapterFields(), 1, list(0, 1, 0), trade{1, 0, 1, 0}},
		{chapterFields(), 1, list(1, 0, 0), none},
		// From none, just if there is one.
		{chapterFields(), 4, list(0, 0, 0), trade{gang.Spare, 0, 9, 0}},
		{chapterFields(), 5, list(2, 1, 1), trade{gang.Spare, 2, 5, 0}},
		{chapterFields(), 5, list(3, 1, 0), trade{gang.Spare, 2, 5, 0}},
		{chapterFields(), 4, list(3, 1, 0), trade{0, 2, 3, 0}},
		{chapterFields(), 0, list(0, 0, 0), none},
		{chapterFields(), 8, list(3, 2, 3), none},
		{chapterFields(), 200, list(3, 2, 3), none},
		{chapterFields(), 200, list(3, 1, 3), trade{gang.Spare, 1, 3, 0}},
		// A gang that brings nothing can go as well, but from none is first.
		{fields(list(0, 0), list(3)), 2, list(2, 0), trade{0, 1, 3, 0}},
		{fields(list(0, 0), list(3)), 3, list(2, 0), trade{gang.Spare, 1, 3, 0}},
		{fields(list(3, 0)), 2, list(1), none},
		// The first by from, and then by to.
		{same, 6, list(0, 0, 0), trade{gang.Spare, 0, 5, 0}},
		{same, 6, list(1, 0, 0), trade{gang.Spare, 1, 5, 0}},
		{same, 2, list(2, 0, 0), trade{0, 1, 3, 0}},
		{same, 2, list(0, 2, 0), trade{1, 0, 3, 0}},
		{same, 4, list(0, 2, 2), trade{1, 0, 3, 0}},
		{same, 4, list(2, 0, 2), trade{0, 1, 3, 0}},
		{same, 3, list(2, 1, 0), trade{0, 2, 3, 0}},
		{same, 3, list(1, 1, 1), none},
		{fullFields(), 1, make([]int, gang.MaxFields), trade{gang.Spare, 0, gang.MaxGain, 0}},
	} {
		if got := exchange(x.fields, x.gangs, x.plan); got != x.want {
			t.Errorf("Exchange %d = %v, want %v", i, got, x.want)
		}
	}
}

func TestP3_4_Errors(t *testing.T) {
	for i, x := range []struct {
		gangs int
		plan  []int
		want  api.Errno
	}{
		{-1, list(0, 0, 0), api.ErrRange}, {201, list(0, 0, 0), api.ErrRange}, {lowest, nil, api.ErrRange},
		{highest, list(9, 9, 9), api.ErrRange}, {201, nil, api.ErrRange},
		{4, nil, api.ErrShape}, {4, list(2, 1), api.ErrShape}, {0, list(9, 9, 9, 9), api.ErrShape},
		{200, list(4, 0, 0), api.ErrOver}, {4, list(-1, 0, 0), api.ErrOver}, {4, list(0, 0, lowest), api.ErrOver},
		{3, list(2, 1, 1), api.ErrOver}, {0, list(0, 0, 1), api.ErrOver}, {7, list(3, 2, 3), api.ErrOver},
	} {
		if got := exchange(chapterFields(), x.gangs, x.plan); got != (trade{e: x.want}) {
			t.Errorf("Exchange %d = %v, want %d", i, got, x.want)
		}
	}
	for i, x := range allBadFields() {
		for _, gangs := range list(0, -1, 201) {
			if got := exchange(x.fields, gangs, nil); got != (trade{e: x.want}) {
				t.Errorf("Exchange of fields %d = %v, want %d", i, got, x.want)
			}
		}
	}
}

// afterExchange returns the plan after an exchange, if there is one.
func afterExchange(l []gang.Field, gangs int, plan []int, from, to int) ([]int, bool) {
	after := slices.Clone(plan)
	if from != gang.Spare {
		after[from]--
	} else if used(plan) >= gangs {
		return nil, false
	}
	if to != gang.Spare {
		after[to]++
	}
	for i, n := range after {
		if n < 0 || n > len(l[i]) {
			return nil, false
		}
	}
	return after, from != to
}

// firstBest is the definition of what Exchange returns.
func firstBest(l []gang.Field, gangs int, plan []int) trade {
	best := trade{e: api.ErrNone}
	for from := gang.Spare; from < len(l); from++ {
		for to := gang.Spare; to < len(l); to++ {
			after, is := afterExchange(l, gangs, plan, from, to)
			if !is {
				continue
			}
			if gain := sugarOf(l, after) - sugarOf(l, plan); gain > best.gain {
				best = trade{from, to, gain, api.OK}
			}
		}
	}
	return best
}

// TestP3_4_EachExchange holds Exchange against all exchanges.
func TestP3_4_EachExchange(t *testing.T) {
	spare, gaining, none := 0, 0, 0
	manyFields(4, func(r *rand.Rand, l []gang.Field) {
		for range 20 {
			plan := anyPlan(r, l)
			gangs := used(plan) + r.IntN(2)*r.IntN(3)
			want := firstBest(l, gangs, plan)
			if got := exchange(l, gangs, plan); got != want {
				t.Fatalf("Exchange of %v, %d and %v = %v, want %v", l, gangs, plan, got, want)
			}
			switch {
			case want.e != api.OK:
				none++
			case want.from == gang.Spare:
				spare++
			default:
				gaining++
			}
		}
	})
	if min(spare, gaining, none) < 500 {
		t.Errorf("%d exchanges from none, %d from a field, and %d plans without one", spare, gaining, none)
	}
}
