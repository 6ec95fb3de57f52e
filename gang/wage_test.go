package gang_test

import (
	"math/rand/v2"
	"slices"
	"testing"

	"zafra/api"
	"zafra/gang"
)

func TestP3_3_Bound(t *testing.T) {
	for i, x := range []struct {
		fields            []gang.Field
		gangs, wage, want int
	}{
		{nil, 0, 0, 0}, {nil, 7, 3, 21},
		{chapterFields(), 4, 0, 44}, {chapterFields(), 4, 4, 31}, {chapterFields(), 4, 5, 29}, {chapterFields(), 4, 6, 30},
		{chapterFields(), 4, 7, 31}, {chapterFields(), 4, 9, 36}, {chapterFields(), 4, 10, 40},
		{chapterFields(), 0, 0, 44}, {chapterFields(), 0, 8, 1}, {chapterFields(), 0, 9, 0},
		{chapterFields(), 0, gang.MaxGain, 0}, {chapterFields(), 200, gang.MaxGain, 200000000},
		{fullFields(), 200, 0, 120000000}, {fullFields(), 200, gang.MaxGain, 200000000},
		{fullFields(), 100, 999999, 99999900 + 120},
	} {
		if bound, e := gang.Bound(x.fields, x.gangs, x.wage); bound != x.want || e != api.OK {
			t.Errorf("Bound %d = %d %d, want %d", i, bound, e, x.want)
		}
	}
}

func TestP3_3_Wages(t *testing.T) {
	const most = gang.MaxGain
	flat := fields(list(0, 0, 0), list(4, 0))
	for i, x := range []struct {
		fields []gang.Field
		gangs  int
		want   api.Span
	}{
		{nil, 0, span(0, most)}, {nil, 1, span(0, 0)}, {fields(nil), 0, span(0, most)}, {fields(nil), 200, span(0, 0)},
		{chapterFields(), 0, span(9, most)}, {chapterFields(), 1, span(8, 9)}, {chapterFields(), 2, span(7, 8)},
		{chapterFields(), 3, span(5, 7)}, {chapterFields(), 4, span(5, 5)}, {chapterFields(), 5, span(5, 5)},
		{chapterFields(), 6, span(3, 5)}, {chapterFields(), 7, span(2, 3)}, {chapterFields(), 8, span(0, 2)},
		{chapterFields(), 9, span(0, 0)}, {chapterFields(), 200, span(0, 0)},
		{flat, 0, span(4, most)}, {flat, 1, span(0, 4)}, {flat, 2, span(0, 0)}, {flat, 5, span(0, 0)}, {flat, 6, span(0, 0)},
		{fullFields(), 0, span(most, most)}, {fullFields(), 119, span(most, most)}, {fullFields(), 120, span(0, most)},
		{fullFields(), 121, span(0, 0)}, {fields(list(0)), 0, span(0, most)}, {fields(list(0)), 1, span(0, 0)},
	} {
		if wages, e := gang.Wages(x.fields, x.gangs); wages != x.want || e != api.OK {
			t.Errorf("Wages %d = %v %d, want %v", i, wages, e, x.want)
		}
	}
}

func TestP3_3_Verify(t *testing.T) {
	for i, x := range []struct {
		gangs, wage, sugar int
		want               api.Errno
	}{
		{4, 5, 29, api.OK}, {4, 5, 28, api.ErrProof}, {4, 5, 30, api.OK}, {4, 5, highest, api.OK}, {4, 5, 0, api.ErrProof},
		{4, 4, 30, api.ErrProof}, {4, 4, 31, api.OK}, {4, 6, 29, api.ErrProof}, {4, 7, 31, api.OK},
		{0, 9, 0, api.OK}, {0, 8, 0, api.ErrProof}, {0, gang.MaxGain, 0, api.OK}, {8, 0, 44, api.OK}, {9, 0, 44, api.OK},
		{9, 1, 44, api.ErrProof}, {9, 0, 43, api.ErrProof}, {200, gang.MaxGain, 200000000, api.OK},
		{200, gang.MaxGain, 199999999, api.ErrProof},
	} {
		if e := gang.Verify(chapterFields(), x.gangs, x.wage, x.sugar); e != x.want {
			t.Errorf("Verify %d = %d, want %d", i, e, x.want)
		}
	}
}

// wageErrors returns the errors of all three functions, and whether the other results are zero.
func wageErrors(l []gang.Field, gangs, wage, sugar int) (errors []api.Errno, zero bool) {
	bound, e1 := gang.Bound(l, gangs, wage)
	wages, e2 := gang.Wages(l, gangs)
	return []api.Errno{e1, e2, gang.Verify(l, gangs, wage, sugar)},
		(e1 == api.OK || bound == 0) && (e2 == api.OK || wages == api.Span{})
}

func TestP3_3_Errors(t *testing.T) {
	const most, ok, bad = gang.MaxGain, api.OK, api.ErrRange
	for i, x := range []struct {
		gangs, wage, sugar int
		want               []api.Errno
	}{
		{0, 0, 44, []api.Errno{ok, ok, ok}},
		{200, most, most * 200, []api.Errno{ok, ok, ok}},
		{-1, 5, 99, []api.Errno{bad, bad, bad}},
		{201, 5, 99, []api.Errno{bad, bad, bad}},
		{lowest, 5, 99, []api.Errno{bad, bad, bad}},
		{highest, 5, 99, []api.Errno{bad, bad, bad}},
		{4, -1, 99, []api.Errno{bad, ok, bad}},
		{4, most + 1, highest, []api.Errno{bad, ok, bad}},
		{4, lowest, 99, []api.Errno{bad, ok, bad}},
		{4, highest, 99, []api.Errno{bad, ok, bad}},
		{0, most + 1, 0, []api.Errno{bad, ok, bad}},
		{4, 5, -1, []api.Errno{ok, ok, bad}},
		{4, 4, lowest, []api.Errno{ok, ok, bad}},
		{201, -1, -1, []api.Errno{bad, bad, bad}},
	} {
		if errors, zero := wageErrors(chapterFields(), x.gangs, x.wage, x.sugar); !slices.Equal(errors, x.want) || !zero {
			t.Errorf("errors %d are %v, zero: %t, want %v", i, errors, zero, x.want)
		}
	}
	for i, x := range allBadFields() {
		for _, n := range list(0, -1, 201) {
			errors, zero := wageErrors(x.fields, n, n, n)
			if !slices.Equal(errors, []api.Errno{x.want, x.want, x.want}) || !zero {
				t.Errorf("errors of fields %d are %v, zero: %t, want %d", i, errors, zero, x.want)
			}
		}
	}
}

// boundOf is the definition of a wage's bound.
func boundOf(l []gang.Field, gangs, wage int) int {
	bound := gangs * wage
	for _, f := range l {
		for _, gain := range f {
			if gain > wage {
				bound += gain - wage
			}
		}
	}
	return bound
}

// TestP3_3_EachWage holds Bound, Wages and Verify against each wage up to a bit above all gains.
func TestP3_3_EachWage(t *testing.T) {
	r := rand.New(rand.NewPCG(3, 3))
	for range 300 {
		l := anyFields(r, 4, 4, 1+r.IntN(12))
		gangs := anyGangs(r, l)
		most := sharedOut(l, gangs)[gangs]
		wages, e := gang.Wages(l, gangs)
		if e != api.OK {
			t.Fatalf("Wages of %v and %d: %d", l, gangs, e)
		}
		for _, wage := range append(list(gang.MaxGain-1, gang.MaxGain, r.IntN(gang.MaxGain)), list(0, 1, 2, 3, 4, 5, 6, 7, 8, 9, 10, 11, 12, 13)...) {
			want := boundOf(l, gangs, wage)
			if bound, e := gang.Bound(l, gangs, wage); bound != want || e != api.OK {
				t.Fatalf("Bound of %v, %d and %d = %d %d, want %d", l, gangs, wage, bound, e, want)
			}
			if is := wages.Lo <= wage && wage <= wages.Hi; is != (want == most) {
				t.Fatalf("Wages of %v and %d = %v, but the bound of %d is %d, the most %d", l, gangs, wages, wage, want, most)
			}
			for sugar := max(0, want-2); sugar <= want+2; sugar++ {
				proof := api.ErrProof
				if want <= sugar {
					proof = api.OK
				}
				if e := gang.Verify(l, gangs, wage, sugar); e != proof {
					t.Fatalf("Verify of %v, %d, %d and %d = %d, want %d", l, gangs, wage, sugar, e, proof)
				}
			}
		}
	}
}
