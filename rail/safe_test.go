package rail_test

import (
	"math/rand/v2"
	"testing"

	"zafra/api"
	"zafra/rail"
)

// TestP5_3_States: states that are safe or not, and stuck or not.
func TestP5_3_States(t *testing.T) {
	for i, x := range []struct {
		l           rail.Line
		t           []rail.Train
		safe, stuck bool
	}{
		{rail.Line{1}, nil, true, false},
		{rail.Line{1}, trains(0, 0, 0, 0), true, false},
		{chapterLine(), trains(2, 2, 5, 5), true, false},
		// Two trains toward each other, with no section, one, and two between them.
		{repeat(1, 4), trains(1, 3, 2, 0), false, true},
		{repeat(1, 5), trains(1, 4, 3, 0), false, false},
		{repeat(1, 6), trains(1, 5, 4, 0), false, false},
		// One of them, or both, arrive before they meet.
		{repeat(1, 4), trains(1, 2, 2, 0), true, false},
		{repeat(1, 4), trains(1, 2, 2, 1), true, false},
		{repeat(1, 4), trains(0, 1, 3, 2), true, false},
		// A loop between them, and one behind them.
		{rail.Line{1, 2, 1}, trains(0, 2, 2, 0), true, false},
		{rail.Line{1, 1, 1, 1, 2, 1}, trains(1, 5, 3, 0), false, false},
		{rail.Line{1, 1, 1, 1, 2, 1}, trains(1, 5, 4, 0), true, false},
		// Three trains need a loop for three, or two loops.
		{rail.Line{1, 1, 1, 2, 1, 1, 1}, trains(1, 6, 2, 6, 4, 0, 5, 0), false, false},
		{rail.Line{1, 1, 1, 3, 1, 1, 1}, trains(1, 6, 2, 6, 4, 0, 5, 0), true, false},
		{rail.Line{1, 1, 1, 2, 2, 1, 1}, trains(1, 6, 2, 6, 4, 0, 5, 0), true, false},
		// A train that could move does not help two that cannot; the state is not stuck yet.
		{repeat(1, 6), trains(1, 3, 2, 0, 4, 5), false, false},
		{repeat(1, 6), trains(1, 3, 2, 0, 5, 5), false, true},
		// All numbers of trains are looked at.
		{repeat(1, 6), trains(0, 0, 4, 5, 1, 3, 0, 0, 2, 0), false, false},
		{repeat(1, 6), trains(0, 0, 5, 5, 1, 3, 0, 0, 2, 0), false, true},
		{repeat(1, 6), trains(1, 3, 2, 0, 0, 0, 0, 0, 4, 5), false, false},
	} {
		safe, e := rail.Safe(x.l, x.t)
		stuck, f := rail.Stuck(x.l, x.t)
		if safe != x.safe || stuck != x.stuck || e != api.OK || f != api.OK {
			t.Errorf("%d: Safe of %v, %v = %v %d, Stuck = %v %d", i, x.l, x.t, safe, e, stuck, f)
		}
	}
}

// want is what the definitions say of a state.
func want(l rail.Line, t []rail.Train) said {
	safe := safetyOf(l, t)
	possible := possibleMoves(l, t)
	return said{safe[placesOf(t)], toGo(t) > 0 && len(possible) == 0, possible, safe.good(l, t)}
}

// TestP5_3_Small: of all states of small lines what is said is true (G3).
func TestP5_3_Small(t *testing.T) {
	safe, stuck, neither, fewer := 0, 0, 0, 0
	smallStates(func(l rail.Line, state []rail.Train) {
		got := say(t, l, state)
		if w := want(l, state); !got.equals(w) {
			t.Fatalf("%v, %v: %v, want %v", l, state, got, w)
		}
		switch {
		case got.safe:
			safe++
		case got.stuck:
			stuck++
		default:
			neither++
		}
		if got.safe && len(got.good) < len(got.possible) {
			fewer++
		}
	})
	if min(safe, stuck, neither, fewer) < 200 {
		t.Errorf("%d states are safe, %d stuck, %d neither; in %d not all possible moves are good", safe, stuck, neither, fewer)
	}
}

// TestP5_3_Large: of states of all sizes what is said is true (G3).
func TestP5_3_Large(t *testing.T) {
	safe, stuck, neither, fewer := 0, 0, 0, 0
	manyStates(3, rail.MaxTrains, func(r *rand.Rand, l rail.Line, state []rail.Train) {
		got := say(t, l, state)
		if w := want(l, state); !got.equals(w) {
			t.Fatalf("%v, %v: %v, want %v", l, state, got, w)
		}
		switch {
		case got.safe:
			safe++
		case got.stuck:
			stuck++
		default:
			neither++
		}
		if got.safe && len(got.good) < len(got.possible) {
			fewer++
		}
	})
	if min(safe, stuck, neither, fewer) < 40 {
		t.Errorf("%d states are safe, %d stuck, %d neither; in %d not all possible moves are good", safe, stuck, neither, fewer)
	}
}

// TestP5_3_Plans: a state is safe just if some plan, of all of them, lets all trains arrive.
func TestP5_3_Plans(t *testing.T) {
	found := map[bool]int{}
	smallStates(func(l rail.Line, state []rail.Train) {
		if toGo(state) > 9 {
			return
		}
		w := arriving(l, state)
		found[w]++
		if safe, e := rail.Safe(l, state); safe != w || e != api.OK {
			t.Fatalf("Safe of %v, %v = %v %d", l, state, safe, e)
		}
	})
	if min(found[true], found[false]) < 200 {
		t.Errorf("safe states: %v", found)
	}
}

// TestP5_3_Most: the longest lines with the most trains, in states from which many others are reached.
func TestP5_3_Most(t *testing.T) {
	for i, x := range []struct {
		l    rail.Line
		t    []rail.Train
		safe bool
	}{
		{rail.Line{2, 2, 2, 1, 1, 1, 1, 2}, trains(6, 0, 1, 7, 3, 7, 0, 7, 0, 7), false},
		{rail.Line{1, 1, 1, 1, 3, 4, 2, 3}, trains(4, 7, 1, 7, 3, 0, 4, 7, 4, 7), false},
		{rail.Line{5, 5, 5, 5, 5, 5, 5, 5}, trains(0, 7, 7, 0, 0, 7, 7, 0, 0, 7), true},
		{rail.Line{3, 1, 1, 2, 2, 1, 1, 2}, trains(0, 7, 7, 0, 0, 7, 7, 0, 0, 7), true},
		{repeat(1, 8), trains(0, 7, 1, 7, 2, 7, 3, 7, 4, 7), true},
	} {
		got := say(t, x.l, x.t)
		if w := want(x.l, x.t); got.safe != x.safe || !got.equals(w) {
			t.Errorf("%d: %v, want %v", i, got, w)
		}
	}
}
