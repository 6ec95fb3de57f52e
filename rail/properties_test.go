package rail_test

import (
	"math/rand/v2"
	"slices"
	"testing"

	"zafra/api"
	"zafra/rail"
)

// TestP5_7_Good: in a safe state in which some train is on the way, some move is good (G7).
func TestP5_7_Good(t *testing.T) {
	on := 0
	check := func(l rail.Line, state []rail.Train) {
		s := say(t, l, state)
		if s.safe && toGo(state) > 0 {
			on++
			if len(s.good) == 0 {
				t.Fatalf("%v, %v: safe, and no move is good", l, state)
			}
		}
	}
	smallStates(check)
	manyStates(7, rail.MaxTrains, func(r *rand.Rand, l rail.Line, state []rail.Train) { check(l, state) })
	if on < 1000 {
		t.Errorf("only %d states", on)
	}
}

// TestP5_7_Dispatch: asked often enough by all trains, in whatever order, the dispatcher lets all of them arrive (G7).
func TestP5_7_Dispatch(t *testing.T) {
	refused := 0
	manyStates(72, rail.MaxTrains, func(r *rand.Rand, l rail.Line, state []rail.Train) {
		var asks []int
		// In each round some train moves, until all have arrived.
		for range toGo(state) {
			asks = append(asks, r.Perm(len(state))...)
		}
		let, end, e := rail.Dispatch(l, state, asks)
		if e == api.ErrStuck {
			return
		}
		if toGo(end) > 0 || len(end) != len(state) || e != api.OK {
			t.Fatalf("Dispatch of %v, %v, %v = %v %v %d", l, state, asks, let, end, e)
		}
		var plan []int
		for n, train := range asks {
			if let[n] {
				plan = append(plan, train)
			}
		}
		if at, e := rail.Verify(l, state, plan); at != len(plan) || e != api.OK {
			t.Fatalf("Verify of %v, %v, %v = %d %d", l, state, plan, at, e)
		}
		for n, train := range asks[:min(len(asks), len(state))] {
			if !let[n] && state[train].At != state[train].To {
				refused++
			}
		}
	})
	if refused < 100 {
		t.Errorf("only %d trains had to wait", refused)
	}
}

// TestP5_7_Continued: a plan of good moves, whichever they are, can be continued until all trains have arrived (G7).
func TestP5_7_Continued(t *testing.T) {
	manyStates(73, rail.MaxTrains, func(r *rand.Rand, l rail.Line, state []rail.Train) {
		good, e := rail.Good(l, state)
		for range toGo(state) {
			if len(good) == 0 {
				return
			}
			after, f := rail.Move(l, state, good[r.IntN(len(good))])
			safe, g := rail.Safe(l, after)
			if e != api.OK || f != api.OK || g != api.OK || !safe {
				t.Fatalf("%v, %v: %v is good; %v: %v, errors %d %d %d", l, state, good, after, safe, e, f, g)
			}
			state = after
			if good, e = rail.Good(l, state); len(good) == 0 && toGo(state) > 0 {
				t.Fatalf("%v, %v: no move is good", l, state)
			}
		}
	})
}

// TestP5_8_Refused: after a move that is possible and not good, no plan lets all trains arrive (G3).
func TestP5_8_Refused(t *testing.T) {
	refused := 0
	smallStates(func(l rail.Line, state []rail.Train) {
		if toGo(state) > 9 {
			return
		}
		s := say(t, l, state)
		for _, train := range s.possible {
			if slices.Contains(s.good, train) {
				continue
			}
			refused++
			if arriving(l, moved(state, train)) {
				t.Fatalf("%v, %v: the move of %d is not good, and all trains can arrive", l, state, train)
			}
		}
	})
	if refused < 500 {
		t.Errorf("only %d moves were not good", refused)
	}
}

// TestP5_9_Kept: a plan has as many moves as there are sections to go, and no section has ever more trains than have
// room (G2).
func TestP5_9_Kept(t *testing.T) {
	most := 0
	manyStates(9, rail.MaxTrains, func(r *rand.Rand, l rail.Line, state []rail.Train) {
		plan, e := rail.Plan(l, state)
		if e != api.OK {
			return
		}
		if len(plan) != toGo(state) {
			t.Fatalf("Plan of %v, %v = %v", l, state, plan)
		}
		most = max(most, len(plan))
		for _, train := range plan {
			after, e := rail.Move(l, state, train)
			if e != api.OK || len(after) != len(state) || toGo(after) != toGo(state)-1 || !fits(l, after) {
				t.Fatalf("Move of %v, %v, %d = %v %d", l, state, train, after, e)
			}
			state = after
		}
	})
	if most < 15 {
		t.Errorf("the longest plan has %d moves", most)
	}
}

// isPart returns whether all numbers of a list are numbers of another one.
func isPart(l, of []int) bool {
	return !slices.ContainsFunc(l, func(n int) bool { return !slices.Contains(of, n) })
}

// TestP5_10_Room: with more room in a section what is safe and good remains so.
func TestP5_10_Room(t *testing.T) {
	more := 0
	manyStates(10, rail.MaxTrains, func(r *rand.Rand, l rail.Line, state []rail.Train) {
		section := r.IntN(len(l))
		if l[section] == rail.MaxRoom {
			return
		}
		before := say(t, l, state)
		wider := slices.Clone(l)
		wider[section]++
		after := say(t, wider, state)
		if before.safe && !after.safe || !isPart(before.good, after.good) {
			t.Fatalf("%v, %v: %v, with more room in %d: %v", l, state, before, section, after)
		}
		if len(after.good) > len(before.good) {
			more++
		}
	})
	if more < 50 {
		t.Errorf("only %d times more moves were good", more)
	}
}

// TestP5_10_Fewer: with one train less what is safe and good remains so.
func TestP5_10_Fewer(t *testing.T) {
	more := 0
	manyStates(11, rail.MaxTrains, func(r *rand.Rand, l rail.Line, state []rail.Train) {
		if len(state) == 0 {
			return
		}
		gone := r.IntN(len(state))
		before := say(t, l, state)
		after := say(t, l, slices.Delete(slices.Clone(state), gone, gone+1))
		var left []int
		for _, train := range before.good {
			switch {
			case train < gone:
				left = append(left, train)
			case train > gone:
				left = append(left, train-1)
			}
		}
		if before.safe && !after.safe || !isPart(left, after.good) {
			t.Fatalf("%v, %v: %v, without %d: %v", l, state, before, gone, after)
		}
		if len(after.good) > len(left) {
			more++
		}
	})
	if more < 50 {
		t.Errorf("only %d times more moves were good", more)
	}
}

// TestP5_10_Stuck: a stuck state is not safe.
func TestP5_10_Stuck(t *testing.T) {
	stuck := 0
	manyStates(12, rail.MaxTrains, func(r *rand.Rand, l rail.Line, state []rail.Train) {
		s := say(t, l, state)
		if !s.stuck {
			return
		}
		stuck++
		if s.safe || len(s.possible)+len(s.good) > 0 {
			t.Fatalf("%v, %v: %v", l, state, s)
		}
	})
	if stuck < 50 {
		t.Errorf("only %d states are stuck", stuck)
	}
}

// TestP5_11_OneWay: trains that go in one direction can all arrive, and each possible move is good.
func TestP5_11_OneWay(t *testing.T) {
	fewer := 0
	manyStates(13, rail.MaxTrains, func(r *rand.Rand, l rail.Line, state []rail.Train) {
		for n, train := range state {
			state[n] = rail.Train{At: min(train.At, train.To), To: max(train.At, train.To)}
		}
		if !fits(l, state) {
			return
		}
		s := say(t, l, state)
		if !s.safe || !slices.Equal(s.good, s.possible) {
			t.Fatalf("%v, %v: %v", l, state, s)
		}
		if len(s.possible) < len(state) {
			fewer++
		}
		slices.Reverse(l)
		for n, train := range state {
			state[n] = rail.Train{At: len(l) - 1 - train.At, To: len(l) - 1 - train.To}
		}
		if got := say(t, l, state); !got.equals(s) {
			t.Fatalf("%v, %v: %v, turned: %v", l, state, got, s)
		}
	})
	if fewer < 100 {
		t.Errorf("in %d states some train could not move", fewer)
	}
}

// TestP5_11_Room: where each section has room for all trains, all can arrive, and each possible move is good.
func TestP5_11_Room(t *testing.T) {
	r := rand.New(rand.NewPCG(5, 14))
	for range 500 {
		n := 1 + r.IntN(rail.MaxTrains)
		l := make(rail.Line, 1+r.IntN(rail.MaxSections))
		for section := range l {
			l[section] = n + r.IntN(rail.MaxRoom-n+1)
		}
		state := anyState(r, l, n)
		onWay := numbersOf(state, func(train int) bool { return state[train].At != state[train].To })
		want := said{safe: true, possible: onWay, good: onWay}
		if s := say(t, l, state); !s.equals(want) {
			t.Fatalf("%v, %v: %v, want %v", l, state, s, want)
		}
	}
}

// TestP5_12_Turned: on the line that is turned around, with the trains in another order, the same is said (G5).
func TestP5_12_Turned(t *testing.T) {
	manyStates(15, rail.MaxTrains, func(r *rand.Rand, l rail.Line, state []rail.Train) {
		numbers := r.Perm(len(state))
		turned, mixed := slices.Clone(l), make([]rail.Train, len(state))
		slices.Reverse(turned)
		for n, train := range state {
			mixed[numbers[n]] = rail.Train{At: len(l) - 1 - train.At, To: len(l) - 1 - train.To}
		}
		renumbered := func(l []int) []int {
			var out []int
			for _, train := range l {
				out = append(out, numbers[train])
			}
			slices.Sort(out)
			return out
		}
		want := say(t, l, state)
		want.possible, want.good = renumbered(want.possible), renumbered(want.good)
		if got := say(t, turned, mixed); !got.equals(want) {
			t.Fatalf("%v, %v: %v, want %v", turned, mixed, got, want)
		}
	})
}
