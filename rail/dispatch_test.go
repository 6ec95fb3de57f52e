package rail_test

import (
	"math/rand/v2"
	"slices"
	"testing"

	"zafra/api"
	"zafra/rail"
)

// TestP5_5_Good: the moves after which all trains can still arrive.
func TestP5_5_Good(t *testing.T) {
	for i, x := range []struct {
		l    rail.Line
		t    []rail.Train
		want []int
	}{
		{chapterLine(), nil, nil},
		{chapterLine(), trains(1, 1, 4, 4), nil},
		{chapterLine(), stateS(), list(0, 1)},
		{chapterLine(), stateW(), list(1)},
		{chapterLine(), stateT(), list(0)},
		{chapterLine(), stateV(), nil},
		{chapterLine(), trains(3, 6, 4, 0), list(1)},
		// Only the train that is nearer to the loop may go on.
		{rail.Line{1, 1, 2, 1, 1, 1}, trains(1, 5, 5, 0), list(0, 1)},
		{rail.Line{1, 1, 2, 1, 1, 1}, trains(2, 5, 4, 0), list(1)},
		// All moves of a state that is not safe are possible, and none is good.
		{repeat(1, 6), trains(0, 5, 5, 0), list(0, 1)},
		{repeat(1, 6), trains(1, 5, 4, 0), nil},
		{repeat(1, 7), trains(2, 3, 1, 5, 4, 0), nil},
	} {
		if got, e := rail.Good(x.l, x.t); !slices.Equal(got, x.want) || e != api.OK {
			t.Errorf("%d: Good of %v, %v = %v %d, want %v", i, x.l, x.t, got, e, x.want)
		}
	}
}

// TestP5_6_Dispatch: what is let, and the state then.
func TestP5_6_Dispatch(t *testing.T) {
	for i, x := range []struct {
		t    []rail.Train
		asks []int
		let  []bool
		end  []rail.Train
	}{
		{stateS(), nil, nil, stateS()},
		{nil, nil, nil, nil},
		{stateS(), list(0, 0, 0, 1, 0, 1, 0), []bool{true, true, true, true, false, true, false}, trains(3, 6, 4, 0)},
		// A train that waits can ask again; a train that has arrived moves no more.
		{stateW(), list(0, 0, 1, 0, 1, 0), []bool{false, false, true, false, true, true}, trains(4, 6, 3, 0)},
		{trains(5, 6, 2, 2), list(1, 0, 0, 1), []bool{false, true, false, false}, trains(6, 6, 2, 2)},
		{stateT(), list(1, 2, 0, 0, 2, 2, 2, 1), []bool{false, false, true, false, true, true, true, true}, trains(3, 5, 3, 1, 0, 0)},
	} {
		let, end, e := rail.Dispatch(chapterLine(), x.t, x.asks)
		if !slices.Equal(let, x.let) || !slices.Equal(end, x.end) || e != api.OK {
			t.Errorf("%d: Dispatch = %v %v %d, want %v %v", i, let, end, e, x.let, x.end)
		}
	}
}

// TestP5_6_Errors: its errors, one before the other.
func TestP5_6_Errors(t *testing.T) {
	stuck := trains(4, 6, 5, 0)
	for i, x := range []struct {
		t    []rail.Train
		asks []int
		want api.Errno
	}{
		{stuck, nil, api.ErrStuck},
		{stateV(), list(0), api.ErrStuck},
		{stuck, repeat(9, 501), api.ErrStuck},
		{stateS(), repeat(9, 501), api.ErrMany},
		{stateS(), repeat(0, 501), api.ErrMany},
		{nil, repeat(0, 501), api.ErrMany},
		{stateS(), repeat(0, 500), api.OK},
		{stateS(), repeat(9, 500), api.ErrNone},
		{stateS(), list(0, 1, 2), api.ErrNone},
		{stateS(), list(-1, 0), api.ErrNone},
		{stateS(), list(0, lowest), api.ErrNone},
		{stateS(), list(0, highest), api.ErrNone},
		{nil, list(0), api.ErrNone},
	} {
		let, end, e := rail.Dispatch(chapterLine(), x.t, x.asks)
		if e != x.want || e != api.OK && len(let)+len(end) > 0 {
			t.Errorf("%d: Dispatch = %v %v %d, want %d", i, let, end, e, x.want)
		}
	}
}

// anyAsks returns so many trains that ask.
func anyAsks(r *rand.Rand, t []rail.Train, n int) []int {
	if len(t) == 0 {
		return nil
	}
	asks := make([]int, n)
	for i := range asks {
		asks[i] = r.IntN(len(t))
	}
	return asks
}

// TestP5_6_Asks: the dispatcher lets a train move just if its move is good in the state then.
func TestP5_6_Asks(t *testing.T) {
	lets, possible, full := 0, 0, 0
	manyStates(6, rail.MaxTrains, func(r *rand.Rand, l rail.Line, state []rail.Train) {
		safe := safetyOf(l, state)
		if !safe[placesOf(state)] {
			if _, _, e := rail.Dispatch(l, state, nil); e != api.ErrStuck {
				t.Fatalf("Dispatch of %v, %v: %d", l, state, e)
			}
			return
		}
		asks := anyAsks(r, state, r.IntN(40))
		let, end, e := rail.Dispatch(l, state, asks)
		if len(let) != len(asks) || e != api.OK {
			t.Fatalf("Dispatch of %v, %v, %v = %v %v %d", l, state, asks, let, end, e)
		}
		now := state
		for n, train := range asks {
			good := slices.Contains(safe.good(l, now), train)
			if let[n] != good {
				t.Fatalf("Dispatch of %v, %v, %v = %v, at %d", l, state, asks, let, n)
			}
			switch {
			case good:
				now = moved(now, train)
				lets++
			case canMove(l, now, train):
				possible++
			case now[train].At != now[train].To:
				full++
			}
		}
		if !slices.Equal(end, now) {
			t.Fatalf("Dispatch of %v, %v, %v = %v, want %v", l, state, asks, end, now)
		}
	})
	if min(lets, possible, full) < 100 {
		t.Errorf("%d moves were let, %d possible ones refused, %d were not possible", lets, possible, full)
	}
}
