package rail_test

import (
	"math/rand/v2"
	"slices"
	"testing"

	"zafra/api"
	"zafra/rail"
)

// TestP5_1_Lines: the errors of a line, at their bounds.
func TestP5_1_Lines(t *testing.T) {
	for i, x := range []struct {
		l    rail.Line
		want api.Errno
	}{
		{nil, api.ErrEmpty},
		{rail.Line{}, api.ErrEmpty},
		{rail.Line{1}, api.OK},
		{repeat(1, 8), api.OK},
		{repeat(1, 9), api.ErrMany},
		{rail.Line{5, 1, 5}, api.OK},
		{rail.Line{0}, api.ErrRange},
		{rail.Line{6}, api.ErrRange},
		{rail.Line{1, 1, 0}, api.ErrRange},
		{rail.Line{1, 1, 6}, api.ErrRange},
		{rail.Line{1, lowest, 1}, api.ErrRange},
		{rail.Line{1, highest, 1}, api.ErrRange},
	} {
		if e := rail.Check(x.l, nil); e != x.want {
			t.Errorf("%d: Check of %v = %d, want %d", i, x.l, e, x.want)
		}
	}
}

// TestP5_1_Trains: the errors of trains, at their bounds.
func TestP5_1_Trains(t *testing.T) {
	for i, x := range []struct {
		l    rail.Line
		t    []rail.Train
		want api.Errno
	}{
		{repeat(5, 2), trains(0, 1, 0, 1, 0, 1, 0, 1, 0, 1), api.OK},
		{repeat(5, 2), make([]rail.Train, 6), api.ErrMany},
		{rail.Line{1, 1}, trains(0, 1, 1, 0), api.OK},
		{rail.Line{1, 1}, trains(2, 0), api.ErrUnit},
		{rail.Line{1, 1}, trains(0, 2), api.ErrUnit},
		{rail.Line{1, 1}, trains(-1, 0), api.ErrUnit},
		{rail.Line{1, 1}, trains(0, -1), api.ErrUnit},
		{rail.Line{1, 1}, trains(2, 2), api.ErrUnit},
		{rail.Line{1, 1}, trains(0, 1, 1, lowest), api.ErrUnit},
		{rail.Line{1, 1}, trains(0, 1, highest, 1), api.ErrUnit},
		{rail.Line{2, 1, 3}, trains(0, 1, 0, 2), api.OK},
		{rail.Line{1, 1, 3}, trains(0, 1, 0, 2), api.ErrFull},
		{rail.Line{2, 1, 3}, trains(0, 1, 0, 2, 0, 1), api.ErrFull},
		{rail.Line{1, 1, 3}, trains(2, 0, 2, 1, 2, 0), api.OK},
		{rail.Line{1, 1, 3}, trains(2, 0, 2, 1, 2, 0, 2, 0), api.ErrFull},
		{rail.Line{1, 1, 1}, trains(1, 0, 2, 1, 1, 2), api.ErrFull},
		// Trains that have arrived take no room.
		{rail.Line{1, 1}, trains(0, 0, 0, 0, 0, 1, 1, 1, 1, 1), api.OK},
	} {
		if e := rail.Check(x.l, x.t); e != x.want {
			t.Errorf("%d: Check of %v, %v = %d, want %d", i, x.l, x.t, e, x.want)
		}
	}
}

// errorCases are arguments with several errors each, and the one that is named first.
func errorCases() []struct {
	l    rail.Line
	t    []rail.Train
	want api.Errno
} {
	return []struct {
		l    rail.Line
		t    []rail.Train
		want api.Errno
	}{
		{nil, append(make([]rail.Train, 5), trains(1, 1)...), api.ErrEmpty},
		{repeat(0, 9), append(make([]rail.Train, 5), trains(9, 9)...), api.ErrMany},
		{rail.Line{1, 9}, append(make([]rail.Train, 5), trains(9, 9)...), api.ErrRange},
		{rail.Line{1, 1}, append(make([]rail.Train, 5), trains(9, 9)...), api.ErrMany},
		{rail.Line{1, 1}, trains(0, 1, 0, 1, 2, 0), api.ErrUnit},
		{rail.Line{1, 1}, trains(0, 1, 0, 1), api.ErrFull},
	}
}

// TestP5_1_FirstError: all functions return the error of Check before their own ones, and nothing else with it.
func TestP5_1_FirstError(t *testing.T) {
	for i, x := range errorCases() {
		if e := rail.Check(x.l, x.t); e != x.want {
			t.Errorf("%d: Check = %d, want %d", i, e, x.want)
		}
		possible, e1 := rail.Possible(x.l, x.t)
		after, e2 := rail.Move(x.l, x.t, -1)
		safe, e3 := rail.Safe(x.l, x.t)
		stuck, e4 := rail.Stuck(x.l, x.t)
		plan, e5 := rail.Plan(x.l, x.t)
		at, e6 := rail.Verify(x.l, x.t, list(0, -1))
		good, e7 := rail.Good(x.l, x.t)
		let, end, e8 := rail.Dispatch(x.l, x.t, repeat(-1, 501))
		for n, e := range []api.Errno{e1, e2, e3, e4, e5, e6, e7, e8} {
			if e != x.want {
				t.Errorf("%d: the function %d returns %d, want %d", i, n, e, x.want)
			}
		}
		if len(possible)+len(after)+len(plan)+len(good)+len(let)+len(end) > 0 || at != 0 || safe || stuck {
			t.Errorf("%d: %v %v %v %v %v %d %v %v %v", i, possible, after, safe, stuck, plan, at, good, let, end)
		}
	}
}

// TestP5_1_Order: each error of a list is found wherever it is, and the order of Check decides, not that of the lists.
func TestP5_1_Order(t *testing.T) {
	r := rand.New(rand.NewPCG(5, 1))
	found := map[api.Errno]int{}
	for range 4000 {
		l, state := anyLine(r), make([]rail.Train, r.IntN(7))
		for n := range state {
			state[n] = rail.Train{At: r.IntN(len(l)), To: r.IntN(len(l))}
		}
		rooms, ends := true, true
		if r.IntN(4) == 0 {
			l[r.IntN(len(l))] = []int{0, 6}[r.IntN(2)]
			rooms = false
		}
		if len(state) > 0 && r.IntN(3) == 0 {
			odd := []int{-1, len(l)}[r.IntN(2)]
			if n := r.IntN(len(state)); r.IntN(2) == 0 {
				state[n].At = odd
			} else {
				state[n].To = odd
			}
			ends = false
		}
		want := api.OK
		switch {
		case !rooms:
			want = api.ErrRange
		case len(state) > rail.MaxTrains:
			want = api.ErrMany
		case !ends:
			want = api.ErrUnit
		case !fits(l, state):
			want = api.ErrFull
		}
		found[want]++
		if e := rail.Check(l, state); e != want {
			t.Fatalf("Check of %v, %v = %d, want %d", l, state, e, want)
		}
	}
	if len(found) != 5 || slices.Min([]int{found[0], found[api.ErrMany], found[api.ErrUnit], found[api.ErrFull]}) < 100 {
		t.Errorf("the results of Check were %v", found)
	}
}
