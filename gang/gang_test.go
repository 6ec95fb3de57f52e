package gang_test

import (
	"math/rand/v2"
	"slices"
	"testing"

	"zafra/api"
	"zafra/gang"
)

func TestP3_1_CheckOK(t *testing.T) {
	const most = gang.MaxGain
	for i, l := range [][]gang.Field{
		nil, {}, chapterFields(), fullFields(), fields(nil), make([]gang.Field, gang.MaxFields),
		fields(make(gang.Field, gang.MaxTable)), fields(list(0)), fields(list(most)), fields(list(most, most, 0, 0)),
		fields(list(5, 5, 4, 4, 0)), fields(nil, list(1), nil, list(2, 1)), fields(list(1), list(9)),
	} {
		if e := gang.Check(l); e != api.OK {
			t.Errorf("Check of fields %d = %d", i, e)
		}
	}
}

func TestP3_1_CheckErrors(t *testing.T) {
	for i, x := range allBadFields() {
		if e := gang.Check(x.fields); e != x.want {
			t.Errorf("Check of fields %d = %d, want %d", i, e, x.want)
		}
	}
}

func TestP3_1_Sugar(t *testing.T) {
	for i, x := range []struct {
		fields      []gang.Field
		plan        []int
		gangs, want int
	}{
		{nil, nil, 0, 0},
		{fields(nil, nil), list(0, 0), 0, 0},
		{chapterFields(), list(0, 0, 0), 0, 0},
		{chapterFields(), list(1, 0, 0), 1, 9},
		{chapterFields(), list(0, 1, 0), 1, 8},
		{chapterFields(), list(0, 0, 1), 1, 5},
		{chapterFields(), list(2, 1, 1), 4, 29},
		{chapterFields(), list(3, 0, 1), 4, 23},
		{chapterFields(), list(3, 2, 3), 8, 44},
		{fields(list(7, 0, 0)), list(3), 3, 7},
		{fullFields(), slices.Repeat(list(10), 12), 120, 120000000},
	} {
		if n, sugar, e := gang.Sugar(x.fields, x.plan); n != x.gangs || sugar != x.want || e != api.OK {
			t.Errorf("Sugar %d = %d %d %d, want %d %d", i, n, sugar, e, x.gangs, x.want)
		}
	}
}

func TestP3_1_SugarErrors(t *testing.T) {
	for i, x := range []struct {
		plan []int
		want api.Errno
	}{
		{nil, api.ErrShape},
		{list(0, 0), api.ErrShape},
		{list(0, 0, 0, 0), api.ErrShape},
		{list(-1, 9), api.ErrShape},
		{list(4, 0, 0), api.ErrOver},
		{list(0, 3, 0), api.ErrOver},
		{list(3, 2, 4), api.ErrOver},
		{list(-1, 0, 0), api.ErrOver},
		{list(2, 1, -1), api.ErrOver},
		{list(0, lowest, 0), api.ErrOver},
		{list(0, 1, highest), api.ErrOver},
	} {
		if n, sugar, e := gang.Sugar(chapterFields(), x.plan); n != 0 || sugar != 0 || e != x.want {
			t.Errorf("Sugar of plan %d = %d %d %d, want %d", i, n, sugar, e, x.want)
		}
	}
	for i, x := range allBadFields() {
		for _, plan := range [][]int{nil, list(0), make([]int, len(x.fields)), list(-1, 99)} {
			if n, sugar, e := gang.Sugar(x.fields, plan); n != 0 || sugar != 0 || e != x.want {
				t.Errorf("Sugar of fields %d = %d %d %d, want %d", i, n, sugar, e, x.want)
			}
		}
	}
}

func TestP3_2_Best(t *testing.T) {
	flat := fields(list(0, 0, 0), list(4, 0))
	for i, x := range []struct {
		fields      []gang.Field
		gangs, want int
	}{
		{nil, 0, 0}, {nil, 200, 0}, {fields(nil, nil), 3, 0},
		{chapterFields(), 0, 0}, {chapterFields(), 1, 9}, {chapterFields(), 4, 29}, {chapterFields(), 7, 42},
		{chapterFields(), 8, 44}, {chapterFields(), 9, 44}, {chapterFields(), 200, 44},
		{flat, 0, 0}, {flat, 1, 4}, {flat, 2, 4}, {flat, 5, 4}, {flat, 6, 4},
		{fields(list(7, 7), list(7)), 2, 14},
		{fullFields(), 119, 119000000}, {fullFields(), 120, 120000000}, {fullFields(), 200, 120000000},
	} {
		plan, sugar, e := gang.Best(x.fields, x.gangs)
		if len(plan) != len(x.fields) || sugar != x.want || e != api.OK {
			t.Errorf("Best %d = %v %d %d, want %d", i, plan, sugar, e, x.want)
		}
		if n, own, e := gang.Sugar(x.fields, plan); n > x.gangs || own != sugar || e != api.OK {
			t.Errorf("Best %d = %v %d, its Sugar: %d %d %d", i, plan, sugar, n, own, e)
		}
	}
}

// TestP3_2_BestOnly has fields with a single best plan.
func TestP3_2_BestOnly(t *testing.T) {
	for i, x := range []struct {
		fields []gang.Field
		gangs  int
		want   []int
	}{
		{chapterFields(), 2, list(1, 1, 0)}, {chapterFields(), 3, list(2, 1, 0)}, {chapterFields(), 4 + 2, list(2, 1, 3)},
		{chapterFields(), 7, list(2, 2, 3)}, {chapterFields(), 8, list(3, 2, 3)},
		{fields(nil, list(1), nil, list(2)), 1, list(0, 0, 0, 1)}, {fields(list(3, 1), list(2)), 2, list(1, 1)},
	} {
		if plan, _, e := gang.Best(x.fields, x.gangs); !slices.Equal(plan, x.want) || e != api.OK {
			t.Errorf("Best %d = %v %d, want %v", i, plan, e, x.want)
		}
	}
}

func TestP3_2_BestErrors(t *testing.T) {
	for n, want := range map[int]api.Errno{
		lowest: api.ErrRange, -1: api.ErrRange, 0: api.OK, 200: api.OK, 201: api.ErrRange, highest: api.ErrRange,
	} {
		plan, sugar, e := gang.Best(chapterFields(), n)
		if e != want || e != api.OK && (len(plan) != 0 || sugar != 0) {
			t.Errorf("Best of %d gangs = %v %d %d, want %d", n, plan, sugar, e, want)
		}
	}
	for i, x := range allBadFields() {
		for _, n := range list(0, 1, -1, 201) {
			if plan, sugar, e := gang.Best(x.fields, n); len(plan) != 0 || sugar != 0 || e != x.want {
				t.Errorf("Best of fields %d = %v %d %d, want %d", i, plan, sugar, e, x.want)
			}
		}
	}
}

func TestP3_2_All(t *testing.T) {
	for i, x := range []struct {
		fields []gang.Field
		want   []int
	}{
		{nil, list(0)},
		{fields(nil, nil), list(0)},
		{chapterFields(), list(0, 9, 17, 24, 29, 34, 39, 42, 44)},
		{fields(list(0, 0, 0), list(4, 0)), list(0, 4, 4, 4, 4, 4)},
		{fields(list(1), list(2), list(3)), list(0, 3, 5, 6)},
		{fields(list(7, 7), list(7)), list(0, 7, 14, 21)},
	} {
		if all, e := gang.All(x.fields); !slices.Equal(all, x.want) || e != api.OK {
			t.Errorf("All of fields %d = %v %d, want %v", i, all, e, x.want)
		}
	}
	all, e := gang.All(fullFields())
	for n, sugar := range all {
		if sugar != n*gang.MaxGain {
			t.Errorf("All of full fields, %d gangs = %d", n, sugar)
		}
	}
	if len(all) != 121 || e != api.OK {
		t.Errorf("All of full fields has %d numbers: %d", len(all), e)
	}
	for i, x := range allBadFields() {
		if all, e := gang.All(x.fields); len(all) != 0 || e != x.want {
			t.Errorf("All of fields %d = %v %d, want %d", i, all, e, x.want)
		}
	}
}

// TestP3_2_EachPlan holds Best and All against all plans.
func TestP3_2_EachPlan(t *testing.T) {
	r := rand.New(rand.NewPCG(3, 2))
	for range 300 {
		l := anyFields(r, 4, 4, 1+r.IntN(8))
		want := make([]int, room(l)+1)
		for plan := range plans(l) {
			for n := used(plan); n < len(want); n++ {
				want[n] = max(want[n], sugarOf(l, plan))
			}
		}
		if all, e := gang.All(l); !slices.Equal(all, want) || e != api.OK {
			t.Fatalf("All of %v = %v %d, want %v", l, all, e, want)
		}
		for n := range len(want) + 2 {
			plan, sugar, e := gang.Best(l, n)
			if sugar != want[min(n, len(want)-1)] || used(plan) > n || sugarOf(l, plan) != sugar || e != api.OK {
				t.Fatalf("Best of %v and %d = %v %d %d, want %v", l, n, plan, sugar, e, want)
			}
		}
	}
}
