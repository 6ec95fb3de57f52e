package rail_test

import (
	"math/rand/v2"
	"slices"
	"testing"

	"zafra/api"
	"zafra/rail"
)

// TestP5_2_Possible: the section to which a train moves has room, or is the one to which it goes.
func TestP5_2_Possible(t *testing.T) {
	l := chapterLine()
	for i, x := range []struct {
		t    []rail.Train
		want []int
	}{
		{nil, nil},
		{trains(0, 0, 6, 6), nil},
		{trains(0, 6), list(0)},
		{trains(6, 0), list(0)},
		{trains(6, 6, 5, 6, 1, 0), list(1, 2)},
		// The next section is full, and it is not, and it has room for two of which one is taken.
		{trains(1, 6, 2, 6), list(1)},
		{trains(1, 6, 0, 6), list(0)},
		{trains(2, 6, 3, 6), list(0, 1)},
		{trains(2, 6, 3, 6, 3, 6), list(1, 2)},
		// The next section is full, but a train arrives there.
		{trains(1, 2, 2, 1), list(0, 1)},
		{trains(2, 3, 3, 0, 3, 6), list(0, 2)},
		// Trains that have arrived take no room in the next section.
		{trains(1, 6, 2, 2, 2, 2), list(0)},
		// Trains toward each other in sections beside each other.
		{trains(4, 6, 5, 0), nil},
		{trains(5, 0, 4, 6), nil},
		{trains(4, 5, 5, 0), list(0)},
	} {
		if got, e := rail.Possible(l, x.t); !slices.Equal(got, x.want) || e != api.OK {
			t.Errorf("%d: Possible of %v = %v %d, want %v", i, x.t, got, e, x.want)
		}
	}
}

// TestP5_2_Move: the errors of a move, and the state after it.
func TestP5_2_Move(t *testing.T) {
	l := chapterLine()
	for i, x := range []struct {
		t     []rail.Train
		train int
		want  []rail.Train
		e     api.Errno
	}{
		{stateW(), 0, trains(4, 6, 5, 0), api.OK},
		{stateW(), 1, trains(3, 6, 4, 0), api.OK},
		{trains(4, 6, 5, 0), 0, nil, api.ErrFull},
		{trains(4, 6, 5, 0), 1, nil, api.ErrFull},
		{trains(5, 6, 2, 2, 1, 0), 0, trains(6, 6, 2, 2, 1, 0), api.OK},
		{trains(5, 6, 2, 2, 1, 0), 2, trains(5, 6, 2, 2, 0, 0), api.OK},
		{trains(5, 6, 2, 2, 1, 0), 1, nil, api.ErrDiff},
		{trains(5, 6, 2, 2, 1, 0), 3, nil, api.ErrNone},
		{trains(5, 6, 2, 2, 1, 0), -1, nil, api.ErrNone},
		{stateS(), lowest, nil, api.ErrNone},
		{stateS(), highest, nil, api.ErrNone},
		{nil, 0, nil, api.ErrNone},
		// The trains that a list lacks are not trains that have arrived.
		{trains(0, 0), 1, nil, api.ErrNone},
		{trains(1, 2, 2, 1), 0, trains(2, 2, 2, 1), api.OK},
	} {
		if got, e := rail.Move(l, x.t, x.train); !slices.Equal(got, x.want) || e != x.e {
			t.Errorf("%d: Move of %v, %d = %v %d, want %v %d", i, x.t, x.train, got, e, x.want, x.e)
		}
	}
}

// moveError is the definition of the error of a move.
func moveError(l rail.Line, t []rail.Train, train int) api.Errno {
	switch {
	case train < 0 || train >= len(t):
		return api.ErrNone
	case t[train].At == t[train].To:
		return api.ErrDiff
	case !canMove(l, t, train):
		return api.ErrFull
	}
	return api.OK
}

// TestP5_2_Moves: Possible and Move agree with the definition of a move.
func TestP5_2_Moves(t *testing.T) {
	found := map[api.Errno]int{}
	manyStates(2, rail.MaxTrains, func(r *rand.Rand, l rail.Line, state []rail.Train) {
		if got, e := rail.Possible(l, state); !slices.Equal(got, possibleMoves(l, state)) || e != api.OK {
			t.Fatalf("Possible of %v, %v = %v %d, want %v", l, state, got, e, possibleMoves(l, state))
		}
		for train := -1; train <= len(state); train++ {
			var want []rail.Train
			e := moveError(l, state, train)
			if e == api.OK {
				want = moved(state, train)
			}
			found[e]++
			if got, f := rail.Move(l, state, train); !slices.Equal(got, want) || f != e {
				t.Fatalf("Move of %v, %v, %d = %v %d, want %v %d", l, state, train, got, f, want, e)
			}
		}
	})
	if len(found) != 4 || found[api.ErrFull] < 200 || found[api.ErrDiff] < 200 || found[api.OK] < 200 {
		t.Errorf("the errors of Move were %v", found)
	}
}
