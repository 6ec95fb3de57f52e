package pan_test

import (
	"math/rand/v2"
	"slices"
	"testing"

	"zafra/api"
	"zafra/pan"
)

// manyWaits returns so many equal waits that are allowed.
func manyWaits(n int) []pan.Wait { return slices.Repeat([]pan.Wait{{To: 1}}, n) }

// TestP6_1_Work: the errors of steps and of the number of waits, at their bounds.
func TestP6_1_Work(t *testing.T) {
	for i, x := range []struct {
		w    pan.Work
		want api.Errno
	}{
		{pan.Work{}, api.ErrRange},
		{work(1), api.OK},
		{work(10), api.OK},
		{work(11), api.ErrRange},
		{work(-1), api.ErrRange},
		{work(lowest), api.ErrRange},
		{work(highest), api.ErrRange},
		{pan.Work{Steps: 2, Waits: manyWaits(40)}, api.OK},
		{pan.Work{Steps: 2, Waits: manyWaits(41)}, api.ErrMany},
		// Each error comes before the ones that are named after it.
		{pan.Work{Steps: 0, Waits: manyWaits(41)}, api.ErrRange},
		{pan.Work{Steps: 11, Waits: manyWaits(41)}, api.ErrRange},
		{pan.Work{Steps: 1, Waits: manyWaits(41)}, api.ErrMany},
		{pan.Work{Steps: 1, Waits: manyWaits(40)}, api.ErrNone},
		{pan.Work{Steps: 1, Waits: make([]pan.Wait, 41)}, api.ErrMany},
		{pan.Work{Steps: 1, Waits: make([]pan.Wait, 40)}, api.ErrStuck},
	} {
		if e := pan.Check(x.w); e != x.want {
			t.Errorf("%d: Check of %v = %d, want %d", i, x.w, e, x.want)
		}
	}
}

// TestP6_1_Waits: the errors of waits, at their bounds.
func TestP6_1_Waits(t *testing.T) {
	for i, x := range []struct {
		w    pan.Work
		want api.Errno
	}{
		{work(3, 0, 2, 0, 0, 0), api.OK},
		{work(3, 2, 0, 10000, 10000, 4), api.OK},
		{work(3, 2, 0, 0, 10000, 4), api.OK},
		{work(3, 3, 0, 0, 0, 0), api.ErrNone},
		{work(3, 0, 3, 0, 0, 0), api.ErrNone},
		{work(3, -1, 0, 0, 0, 0), api.ErrNone},
		{work(3, 0, -1, 0, 0, 0), api.ErrNone},
		{work(3, lowest, 0, 0, 0, 0), api.ErrNone},
		{work(3, 0, highest, 0, 0, 0), api.ErrNone},
		{work(3, 0, 1, 1, 0, 0), api.ErrRange},
		{work(3, 0, 1, -1, 0, 0), api.ErrRange},
		{work(3, 0, 1, -2, -1, 0), api.ErrRange},
		{work(3, 0, 1, 0, 10001, 0), api.ErrRange},
		{work(3, 0, 1, 10001, 10001, 0), api.ErrRange},
		{work(3, 0, 1, lowest, highest, 0), api.ErrRange},
		{work(3, 0, 1, highest, lowest, 0), api.ErrRange},
		{work(3, 0, 1, 0, highest, 0), api.ErrRange},
		{work(3, 0, 1, lowest, 0, 0), api.ErrRange},
		{work(3, 0, 1, 0, 0, 5), api.ErrRange},
		{work(3, 0, 1, 0, 0, -1), api.ErrRange},
		{work(3, 0, 1, 0, 0, lowest), api.ErrRange},
		{work(3, 0, 1, 0, 0, highest), api.ErrRange},
		// The first wait with an error decides, and of its errors the one that is named first.
		{work(3, 0, 3, 1, 0, 5), api.ErrNone},
		{work(3, -1, 0, -1, 0, -1), api.ErrNone},
		{work(3, 0, 1, 0, 0, 0, 0, 1, 0, 0, 5, 0, 3, 0, 0, 0), api.ErrRange},
		{work(3, 0, 1, 0, 0, 0, 0, 3, 0, 0, 0, 0, 1, 0, 0, 5), api.ErrNone},
		// A wait with an error comes before a work that gets stuck.
		{work(3, 0, 0, 0, 0, 0, 0, 3, 0, 0, 0), api.ErrNone},
		{work(3, 0, 0, 0, 0, 0, 0, 1, 0, 0, 5), api.ErrRange},
	} {
		if e := pan.Check(x.w); e != x.want {
			t.Errorf("%d: Check of %v = %d, want %d", i, x.w, e, x.want)
		}
	}
}

// TestP6_1_Stuck: cycles without strikes, of which a wait takes no time or some.
func TestP6_1_Stuck(t *testing.T) {
	stuck := workW()
	stuck.Waits = append(stuck.Waits, pan.Wait{From: 2, To: 0, Takes: span(5, 5)})
	for i, x := range []struct {
		w    pan.Work
		want api.Errno
	}{
		{workW(), api.OK},
		{workU(), api.OK},
		{stuck, api.ErrStuck},
		{work(1, 0, 0, 0, 0, 0), api.ErrStuck},
		{work(1, 0, 0, 0, 7, 0), api.ErrStuck},
		{work(1, 0, 0, 0, 0, 1), api.OK},
		{work(1, 0, 0, 0, 0, 1, 0, 0, 0, 0, 0), api.ErrStuck},
		{work(10, 9, 9, 0, 0, 0), api.ErrStuck},
		{work(2, 0, 1, 0, 0, 0, 1, 0, 0, 0, 0), api.ErrStuck},
		{work(2, 0, 1, 0, 0, 0, 1, 0, 0, 0, 1), api.OK},
		{work(2, 0, 1, 0, 0, 1, 1, 0, 0, 0, 0), api.OK},
		{work(2, 0, 1, 0, 0, 1, 1, 0, 0, 0, 0, 0, 1, 0, 0, 0), api.ErrStuck},
		// Steps that wait for one step in several ways do not wait for each other.
		{work(4, 0, 1, 0, 0, 0, 0, 2, 0, 0, 0, 1, 3, 0, 0, 0, 2, 3, 0, 0, 0, 0, 3, 0, 0, 0), api.OK},
		{work(4, 3, 1, 0, 0, 0, 3, 2, 0, 0, 0, 1, 0, 0, 0, 0, 2, 0, 0, 0, 0, 2, 1, 0, 0, 0), api.OK},
		{work(4, 3, 1, 0, 0, 0, 3, 2, 0, 0, 0, 1, 0, 0, 0, 0, 2, 0, 0, 0, 0, 0, 2, 0, 0, 0), api.ErrStuck},
	} {
		if e := pan.Check(x.w); e != x.want {
			t.Errorf("%d: Check of %v = %d, want %d", i, x.w, e, x.want)
		}
	}
}

// TestP6_1_AllCycles: a work gets stuck just if one of all its cycles has no strikes.
func TestP6_1_AllCycles(t *testing.T) {
	r := rand.New(rand.NewPCG(6, 1))
	found := map[api.Errno]int{}
	for range 6000 {
		w := anyWork(r, 6, 14, 2)
		want := api.OK
		if isStuck(w) {
			want = api.ErrStuck
		}
		found[want]++
		if e := pan.Check(w); e != want {
			t.Fatalf("Check of %v = %d, want %d", w, e, want)
		}
	}
	if found[api.OK] < 1000 || found[api.ErrStuck] < 1000 {
		t.Errorf("found %v", found)
	}
}

// TestP6_1_Everywhere: the error of a work comes before all others of each function.
func TestP6_1_Everywhere(t *testing.T) {
	for i, x := range []struct {
		w    pan.Work
		want api.Errno
	}{
		{work(0), api.ErrRange},
		{pan.Work{Steps: 1, Waits: manyWaits(41)}, api.ErrMany},
		{work(1, 0, 1, 0, 0, 0), api.ErrNone},
		{work(1, 0, 0, 1, 0, 0), api.ErrRange},
		{work(1, 0, 0, 0, 0, 0), api.ErrStuck},
	} {
		pace, e1 := pan.Pace(x.w)
		cycle, e2 := pan.Hold(x.w)
		holds, e3 := pan.Holds(x.w, nil)
		table, e4 := pan.Table(x.w)
		e5 := pan.Verify(x.w, period(-1, 0), nil)
		runs, e6 := pan.Runs(x.w, -1)
		kept, e7 := pan.Kept(x.w, period(-1, 0))
		got := []api.Errno{e1, e2, e3, e4, e5, e6, e7}
		if !slices.Equal(got, slices.Repeat([]api.Errno{x.want}, 7)) {
			t.Errorf("%d: %v, want %d", i, got, x.want)
		}
		if pace != period(0, 0) || len(cycle) > 0 || holds != period(0, 0) || len(table)+len(runs) > 0 || kept {
			t.Errorf("%d: %v %v %v %v %v %v", i, pace, cycle, holds, table, runs, kept)
		}
	}
}
