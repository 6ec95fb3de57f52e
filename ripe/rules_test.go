package ripe_test

import (
	"math/rand/v2"
	"reflect"
	"slices"
	"testing"

	"zafra/api"
	"zafra/ripe"
)

// results calls each function, and returns all results.
func results(f ripe.Field, weeks []int, number int) []any {
	known, e1 := ripe.Known(f)
	clash, e2 := ripe.Clash(f)
	peaks, e3 := ripe.Peaks(f)
	surely, perhaps, e4 := ripe.Ripe(f, number)
	regret, e5 := ripe.Regret(f, number)
	week, least, e6 := ripe.Cut(f)
	return []any{ripe.Check(f), known, e1, clash, e2, ripe.Verify(f, weeks), peaks, e3, surely, perhaps, e4, regret, e5,
		week, least, e6}
}

// oddNumber returns numbers that are often not as stated, or just so.
func oddNumber(r *rand.Rand) int {
	odd := []int{-1 << 63, 1<<63 - 1, -2, -1, 0, 1, 2, 5, 29, 30, 31, ripe.MaxSweet - 1, ripe.MaxSweet, ripe.MaxSweet + 1}
	return odd[r.IntN(len(odd))]
}

// oddField returns a field that may have any error.
func oddField(r *rand.Rand) ripe.Field {
	f := anyField(r, 8)
	switch r.IntN(5) {
	case 0:
		f.Weeks = oddNumber(r)
	case 1:
		f.Range = span(oddNumber(r), oddNumber(r))
	case 2:
		f.Samples = append(f.Samples, ripe.Sample{Week: oddNumber(r), Value: oddNumber(r), Off: oddNumber(r)})
	case 3:
		f.Samples = append(f.Samples, make([]ripe.Sample, r.IntN(130))...)
	}
	return f
}

// TestP2_Ends: no function panics, arguments are not changed, and the same arguments have the same results (P1, R4).
func TestP2_Ends(t *testing.T) {
	r := rand.New(rand.NewPCG(2, 9))
	for range 3000 {
		f, number := oddField(r), oddNumber(r)
		weeks := make([]int, 2+r.IntN(3))
		for i := range weeks {
			weeks[i] = oddNumber(r)
		}
		samples, oldWeeks := slices.Clone(f.Samples), slices.Clone(weeks)
		first := results(f, weeks, number)
		if !slices.Equal(samples, f.Samples) || !slices.Equal(oldWeeks, weeks) {
			t.Fatalf("arguments were changed: %v %v", f, weeks)
		}
		if second := results(f, weeks, number); !reflect.DeepEqual(first, second) {
			t.Fatalf("%v and then %v", first, second)
		}
	}
}

// TestP2_Greatest has the most weeks and the greatest numbers, with which products must still fit.
func TestP2_Greatest(t *testing.T) {
	const most, last = ripe.MaxSweet, ripe.MaxWeeks - 1
	f := field(ripe.MaxWeeks, 0, most, 0, 0, 0, last, most-1, 0)
	for i := len(f.Samples); i < ripe.MaxSamples; i++ {
		f.Samples = append(f.Samples, ripe.Sample{Week: i % ripe.MaxWeeks, Value: most, Off: most})
	}
	known, _ := ripe.Known(f)
	all := regrets(f)
	if len(known) != ripe.MaxWeeks {
		t.Fatalf("Known = %v", known)
	}
	for week := range f.Weeks {
		// The least is a line from end to end, and the last week is more than it by this, rounded up.
		regret := ((most-1)*(last-week) + last - 1) / last
		want := span((most-1)*week/last, most)
		switch week {
		case 0:
			want, regret = span(0, 0), most
		case last:
			want, regret = span(most-1, most-1), 1
		}
		if known[week] != want || all[week] != regret {
			t.Errorf("week %d: Known %v, want %v; Regret %d, want %d", week, known[week], want, all[week], regret)
		}
	}
	if week, regret, e := ripe.Cut(f); week != last || regret != 1 || e != api.OK {
		t.Errorf("Cut = %d %d %d", week, regret, e)
	}
}

// TestR4_Results: a result that is changed changes no argument and no later result.
func TestR4_Results(t *testing.T) {
	f, z := chapterField(), clashField()
	known, _ := ripe.Known(f)
	known[0].Lo = 77
	peaks, _ := ripe.Peaks(f)
	peaks[0] = 77
	surely, perhaps, _ := ripe.Ripe(f, 0)
	surely[0] = 77
	if perhaps[0] != 0 {
		t.Error("both lists of Ripe are the same")
	}
	perhaps[0] = 77
	clash, _ := ripe.Clash(z)
	clash[0] = 77
	if !reflect.DeepEqual(f, chapterField()) || !reflect.DeepEqual(z, clashField()) {
		t.Error("a field was changed")
	}
	if a, b := results(f, nil, 0), results(chapterField(), nil, 0); !reflect.DeepEqual(a, b) {
		t.Errorf("%v, want %v", a, b)
	}
	if l, e := ripe.Clash(z); !slices.Equal(l, list(0, 2, 4)) || e != api.OK {
		t.Errorf("Clash = %v %d", l, e)
	}
}

// TestR3_Nil: an empty list and a nil one are the same.
func TestR3_Nil(t *testing.T) {
	a := results(ripe.Field{Weeks: 2, Range: span(1, 5)}, nil, 1)
	b := results(ripe.Field{Weeks: 2, Range: span(1, 5), Samples: []ripe.Sample{}}, list(), 1)
	if !reflect.DeepEqual(a, b) {
		t.Errorf("%v and %v", a, b)
	}
}

// TestExamples is the chapter's table.
func TestExamples(t *testing.T) {
	f, z := chapterField(), clashField()
	want := []api.Span{span(980, 1020), span(1180, 1545), span(1380, 1420), span(1275, 1640), span(1170, 1230)}
	if l, e := ripe.Known(f); !slices.Equal(l, want) || e != api.OK {
		t.Errorf("Known = %v %d", l, e)
	}
	if l, e := ripe.Known(z); len(l) != 0 || e != api.ErrClash {
		t.Errorf("Known of Z = %v %d", l, e)
	}
	if l, e := ripe.Clash(z); !slices.Equal(l, list(0, 2, 4)) || e != api.OK {
		t.Errorf("Clash of Z = %v %d", l, e)
	}
	for i, e := range []api.Errno{ripe.Verify(z, list(0, 1, 4)), ripe.Verify(z, list(2, 2, 2)), ripe.Verify(f, list(0, 2, 4))} {
		if e != api.ErrProof {
			t.Errorf("Verify %d = %d", i, e)
		}
	}
	if e := ripe.Verify(z, list(0, 2, 4)); e != api.OK {
		t.Errorf("Verify = %d", e)
	}
	if l, e := ripe.Peaks(f); !slices.Equal(l, list(1, 2, 3)) || e != api.OK {
		t.Errorf("Peaks = %v %d", l, e)
	}
	surely, perhaps, e := ripe.Ripe(f, 1300)
	if !slices.Equal(surely, list(2)) || !slices.Equal(perhaps, list(1, 2, 3)) || e != api.OK {
		t.Errorf("Ripe = %v %v %d", surely, perhaps, e)
	}
	if l := regrets(f); !slices.Equal(l, list(660, 440, 220, 250, 470)) {
		t.Errorf("regrets = %v", l)
	}
	if week, regret, e := ripe.Cut(f); week != 2 || regret != 220 || e != api.OK {
		t.Errorf("Cut = %d %d %d", week, regret, e)
	}
}

func TestLimits(t *testing.T) {
	if ripe.MaxWeeks != 30 || ripe.MaxSweet != 30000 || ripe.MaxSamples != 100 {
		t.Errorf("limits are %d %d %d", ripe.MaxWeeks, ripe.MaxSweet, ripe.MaxSamples)
	}
}
