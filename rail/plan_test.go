package rail_test

import (
	"math/rand/v2"
	"testing"

	"zafra/api"
	"zafra/rail"
)

// arrive says why a plan does not let all trains arrive, by the definition.
func arrive(l rail.Line, t []rail.Train, plan []int) string {
	for _, train := range plan {
		if train < 0 || train >= len(t) || !canMove(l, t, train) {
			return "a move that is not possible"
		}
		t = moved(t, train)
	}
	if toGo(t) > 0 {
		return "some train is on the way"
	}
	return ""
}

// checkPlan checks what Plan returns, and that Verify accepts it (G4).
func checkPlan(t *testing.T, l rail.Line, state []rail.Train, safe bool) {
	t.Helper()
	plan, e := rail.Plan(l, state)
	if !safe {
		if len(plan) > 0 || e != api.ErrStuck {
			t.Fatalf("Plan of %v, %v = %v %d", l, state, plan, e)
		}
		return
	}
	if why := arrive(l, state, plan); e != api.OK || why != "" {
		t.Fatalf("Plan of %v, %v = %v %d: %s", l, state, plan, e, why)
	}
	if at, e := rail.Verify(l, state, plan); at != len(plan) || e != api.OK {
		t.Fatalf("Verify of %v, %v, %v = %d %d", l, state, plan, at, e)
	}
}

// TestP5_4_Small: Plan has a plan for each safe state of small lines, and none for the others.
func TestP5_4_Small(t *testing.T) {
	smallStates(func(l rail.Line, state []rail.Train) {
		checkPlan(t, l, state, safetyOf(l, state)[placesOf(state)])
	})
}

// TestP5_4_Large: Plan has a plan for each safe state of all sizes, and none for the others.
func TestP5_4_Large(t *testing.T) {
	found := map[bool]int{}
	manyStates(4, rail.MaxTrains, func(r *rand.Rand, l rail.Line, state []rail.Train) {
		safe := safetyOf(l, state)[placesOf(state)]
		found[safe]++
		checkPlan(t, l, state, safe)
	})
	if min(found[true], found[false]) < 200 {
		t.Errorf("safe states: %v", found)
	}
}

// TestP5_4_NoTrain: where no train is on the way, the plan has no move.
func TestP5_4_NoTrain(t *testing.T) {
	for i, state := range [][]rail.Train{nil, trains(3, 3), trains(0, 0, 0, 0, 6, 6)} {
		if plan, e := rail.Plan(chapterLine(), state); len(plan) > 0 || e != api.OK {
			t.Errorf("%d: Plan = %v %d", i, plan, e)
		}
		if at, e := rail.Verify(chapterLine(), state, nil); at != 0 || e != api.OK {
			t.Errorf("%d: Verify = %d %d", i, at, e)
		}
	}
}

// TestP5_4_Verify: the first number of a plan with an error, and its place.
func TestP5_4_Verify(t *testing.T) {
	for i, x := range []struct {
		t    []rail.Train
		plan []int
		at   int
		e    api.Errno
	}{
		{stateS(), list(0, 0, 0, 0, 0, 0, 1, 1, 1, 1, 1, 1), 12, api.OK},
		{stateS(), list(0, 0, 0, 1, 1, 1, 0, 1, 0, 1, 0, 1), 12, api.OK},
		{stateS(), list(0, 0, 0, 1, 0, 0), 5, api.ErrFull},
		{stateS(), list(0, 0, 0, 1, 0, 0, 9), 5, api.ErrFull},
		{stateS(), list(0, 0, 0, 0, 0, 0, 0), 6, api.ErrDiff},
		{stateS(), list(0, 0, 0, 0, 0, 0), 6, api.ErrDiff},
		{stateS(), nil, 0, api.ErrDiff},
		{stateS(), list(2), 0, api.ErrNone},
		{stateS(), list(0, -1, 0), 1, api.ErrNone},
		{stateS(), list(0, highest), 1, api.ErrNone},
		{stateS(), list(lowest), 0, api.ErrNone},
		{nil, list(0), 0, api.ErrNone},
		{trains(1, 1), list(0), 0, api.ErrDiff},
		{trains(0, 6, 6, 6), append(repeat(0, 6), 1), 6, api.ErrDiff},
		// Moves of a state that is not safe have their own errors, too.
		{stateV(), list(1), 0, api.ErrFull},
		{stateV(), nil, 0, api.ErrDiff},
		{trains(4, 6, 5, 0), list(1), 0, api.ErrFull},
	} {
		if at, e := rail.Verify(chapterLine(), x.t, x.plan); at != x.at || e != x.e {
			t.Errorf("%d: Verify = %d %d, want %d %d", i, at, e, x.at, x.e)
		}
	}
}

// verified is the definition of what Verify returns.
func verified(l rail.Line, t []rail.Train, plan []int) (int, api.Errno) {
	for at, train := range plan {
		if e := moveError(l, t, train); e != api.OK {
			return at, e
		}
		t = moved(t, train)
	}
	if toGo(t) > 0 {
		return len(plan), api.ErrDiff
	}
	return len(plan), api.OK
}

// TestP5_4_Damaged: Verify finds the first error of plans of which a part was changed.
func TestP5_4_Damaged(t *testing.T) {
	found := map[api.Errno]int{}
	manyStates(5, rail.MaxTrains, func(r *rand.Rand, l rail.Line, state []rail.Train) {
		plan, e := rail.Plan(l, state)
		if e != api.OK {
			plan = make([]int, 6)
			for n := range plan {
				plan[n] = r.IntN(rail.MaxTrains)
			}
		}
		for range 5 {
			switch n := len(plan); {
			case n == 0 || r.IntN(4) == 0:
				plan = append(plan, r.IntN(len(state)+1))
			case r.IntN(3) == 0:
				plan = plan[:n-1]
			default:
				plan[r.IntN(n)] = r.IntN(len(state) + 1)
			}
			wantAt, want := verified(l, state, plan)
			found[want]++
			if at, e := rail.Verify(l, state, plan); at != wantAt || e != want {
				t.Fatalf("Verify of %v, %v, %v = %d %d, want %d %d", l, state, plan, at, e, wantAt, want)
			}
		}
	})
	if len(found) != 4 || min(found[api.OK], found[api.ErrFull], found[api.ErrNone], found[api.ErrDiff]) < 50 {
		t.Errorf("the results of Verify were %v", found)
	}
}
