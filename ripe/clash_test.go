package ripe_test

import (
	"slices"
	"testing"

	"zafra/api"
	"zafra/ripe"
)

// clashes are fields that are not possible, but only just.
func clashes() []badField {
	var all []badField
	for _, f := range []ripe.Field{
		clashField(),
		field(1, 0, 100, 0, 50, 10, 0, 71, 10),
		field(1, 0, 100, 0, 150, 49),
		field(1, 20, 100, 0, 9, 10),
		field(3, 0, 100, 2, 50, 0, 2, 51, 0),
		field(3, 0, 100, 0, 50, 0, 1, 39, 0, 2, 30, 0),
		field(3, 0, 100, 0, 30, 0, 1, 39, 0, 2, 50, 0),
		field(4, 0, 100, 0, 30, 0, 1, 33, 0, 3, 40, 0),
		field(4, 0, 100, 0, 40, 0, 2, 33, 0, 3, 30, 0),
		field(30, 0, 30000, 0, 0, 0, 28, 1070, 0, 29, 1109, 0),
		field(30, 10, 20, 0, 20, 0, 15, 14, 0, 29, 20, 0),
		field(3, 10, 20, 1, 9, 0),
	} {
		all = append(all, badField{f, api.ErrClash})
	}
	return all
}

func TestP2_3_Clash(t *testing.T) {
	for i, x := range clashes() {
		l, e := ripe.Clash(x.field)
		if e != api.OK || ripe.Verify(x.field, l) != api.OK {
			t.Errorf("Clash of field %d = %v %d", i, l, e)
		}
	}
	if l, e := ripe.Clash(clashField()); !slices.Equal(l, list(0, 2, 4)) || e != api.OK {
		t.Errorf("Clash = %v %d", l, e)
	}
	if l, e := ripe.Clash(field(3, 0, 9, 1, 5, 0, 1, 6, 0)); !slices.Equal(l, list(1, 1, 1)) || e != api.OK {
		t.Errorf("Clash = %v %d", l, e)
	}
}

func TestP2_3_ClashNone(t *testing.T) {
	for i, f := range []ripe.Field{
		chapterField(),
		field(1, 0, 0), field(30, 0, 30000),
		field(1, 0, 100, 0, 50, 10, 0, 70, 10),
		field(1, 0, 100, 0, 150, 50),
		field(1, 20, 100, 0, 9, 11),
		field(3, 0, 100, 0, 50, 0, 1, 40, 0, 2, 30, 0),
		field(3, 0, 100, 0, 30, 0, 1, 40, 0, 2, 50, 0),
		field(4, 0, 100, 0, 30, 0, 1, 33, 0, 3, 39, 0),
		field(4, 0, 100, 0, 40, 0, 2, 34, 0, 3, 30, 0),
		field(30, 0, 30000, 0, 0, 0, 28, 1071, 0, 29, 1109, 0),
		field(30, 10, 20, 0, 20, 0, 15, 20, 0, 29, 19, 0),
	} {
		if l, e := ripe.Clash(f); len(l) != 0 || e != api.ErrNone {
			t.Errorf("Clash of field %d = %v %d", i, l, e)
		}
		if !possible(f) {
			t.Errorf("field %d is not possible", i)
		}
	}
}

func TestP2_3_ClashErrors(t *testing.T) {
	for i, x := range badFields() {
		if l, e := ripe.Clash(x.field); len(l) != 0 || e != x.want {
			t.Errorf("Clash of field %d = %v %d, want %d", i, l, e, x.want)
		}
		for _, weeks := range [][]int{nil, list(-1, 0, 0), list(0, 0, 0)} {
			if e := ripe.Verify(x.field, weeks); e != x.want {
				t.Errorf("Verify of field %d = %d, want %d", i, e, x.want)
			}
		}
	}
}

func TestP2_3_Verify(t *testing.T) {
	z, falling := clashField(), field(3, 0, 100, 0, 50, 0, 1, 39, 0, 2, 30, 0)
	for i, x := range []struct {
		field ripe.Field
		weeks []int
		want  api.Errno
	}{
		{z, list(0, 2, 4), api.OK},
		{z, list(0, 1, 4), api.ErrProof},
		{z, list(2, 2, 2), api.ErrProof},
		{chapterField(), list(0, 2, 4), api.ErrProof},
		{z, list(4, 2, 0), api.ErrProof},
		{z, list(0, 2, 0), api.ErrProof},
		{z, list(0, 2, 2), api.ErrProof},
		{z, list(0, 0, 4), api.ErrProof},
		{z, list(2, 0, 4), api.ErrProof},
		{z, list(0, 4, 2), api.ErrProof},
		{z, nil, api.ErrShape},
		{z, list(0, 2), api.ErrShape},
		{z, list(0, 2, 4, 4), api.ErrShape},
		{z, list(-1, 9), api.ErrShape},
		{z, list(5, 2, 4), api.ErrNone},
		{z, list(0, 5, 4), api.ErrNone},
		{z, list(0, 2, 5), api.ErrNone},
		{z, list(-1, 2, 4), api.ErrNone},
		{z, list(0, -1<<63, 4), api.ErrNone},
		{z, list(0, 2, 1<<63-1), api.ErrNone},
		{field(5, 0, 2000, 0, 1000, 20, 2, 900, 10, 4, 840, 0), list(0, 2, 4), api.ErrProof}, // just on the line
		{field(5, 0, 2000, 0, 1000, 20, 2, 900, 10, 4, 841, 0), list(0, 2, 4), api.OK},
		{falling, list(0, 1, 2), api.OK},
		{falling, list(2, 1, 0), api.ErrProof},
		// The same week, and others beside it.
		{field(2, 0, 100, 0, 150, 49), list(0, 0, 0), api.OK},
		{field(2, 0, 100, 0, 150, 49), list(1, 1, 1), api.ErrProof},
		{field(2, 0, 100, 0, 150, 49), list(0, 0, 1), api.ErrProof},
		{field(2, 0, 100, 0, 150, 49), list(1, 0, 0), api.ErrProof},
		{field(1, 0, 100, 0, 50, 10, 0, 70, 10), list(0, 0, 0), api.ErrProof},
		// Weeks at different distances: 33 is below the line, 34 is not.
		{field(4, 0, 100, 0, 30, 0, 1, 33, 0, 3, 40, 0), list(0, 1, 3), api.OK},
		{field(4, 0, 100, 0, 30, 0, 1, 34, 0, 3, 40, 0), list(0, 1, 3), api.ErrProof},
		{field(4, 0, 100, 0, 40, 0, 2, 33, 0, 3, 30, 0), list(0, 2, 3), api.OK},
		{field(4, 0, 100, 0, 40, 0, 2, 34, 0, 3, 30, 0), list(0, 2, 3), api.ErrProof},
	} {
		if e := ripe.Verify(x.field, x.weeks); e != x.want {
			t.Errorf("Verify %d = %d, want %d", i, e, x.want)
		}
	}
}

// TestP2_3_VerifyAll holds Verify against the definition of a clash, for all lists of three weeks.
func TestP2_3_VerifyAll(t *testing.T) {
	accepted := 0
	manyFields(1000, 5, func(f ripe.Field) {
		low, high := make([]int, f.Weeks), make([]int, f.Weeks)
		for week := range f.Weeks {
			low[week], high[week] = f.Range.Lo, f.Range.Hi
			for _, s := range f.Samples {
				if s.Week == week {
					low[week], high[week] = max(low[week], s.Value-s.Off), min(high[week], s.Value+s.Off)
				}
			}
		}
		for _, l := range triples(f.Weeks) {
			i, j, k := l[0], l[1], l[2]
			holds := i == j && j == k && low[i] > high[i] ||
				i < j && j < k && low[i]*(k-j)+low[k]*(j-i) > high[j]*(k-i)
			want := api.ErrProof
			if holds {
				want = api.OK
				accepted++
			}
			if e := ripe.Verify(f, l); e != want {
				t.Fatalf("Verify of %v, %v = %d, want %d", f, l, e, want)
			}
		}
	})
	if accepted < 500 {
		t.Errorf("only %d were accepted", accepted)
	}
}
