package gang_test

import (
	"math/rand/v2"
	"testing"

	"zafra/api"
	"zafra/gang"
)

// best returns a best plan with its sugar.
func best(t *testing.T, l []gang.Field, gangs int) ([]int, int) {
	t.Helper()
	plan, sugar, e := gang.Best(l, gangs)
	if e != api.OK || len(plan) != len(l) {
		t.Fatalf("Best of %v and %d = %v %d %d", l, gangs, plan, sugar, e)
	}
	return plan, sugar
}

func wagesOf(t *testing.T, l []gang.Field, gangs int) api.Span {
	t.Helper()
	wages, e := gang.Wages(l, gangs)
	if e != api.OK || wages.Lo < 0 || wages.Lo > wages.Hi || wages.Hi > gang.MaxGain {
		t.Fatalf("Wages of %v and %d = %v %d", l, gangs, wages, e)
	}
	return wages
}

// TestP3_6_Best: no plan has more sugar, each wage of Wages proves it, and no wage proves less (G4).
func TestP3_6_Best(t *testing.T) {
	manyFields(6, func(r *rand.Rand, l []gang.Field) {
		gangs := anyGangs(r, l)
		plan, sugar := best(t, l, gangs)
		if want := sharedOut(l, gangs)[gangs]; sugar != want || sugarOf(l, plan) != want || used(plan) > gangs {
			t.Fatalf("Best of %v and %d = %v %d, want %d", l, gangs, plan, sugar, want)
		}
		wages := wagesOf(t, l, gangs)
		for _, wage := range list(wages.Lo, wages.Hi, wages.Lo+r.IntN(wages.Hi-wages.Lo+1)) {
			if e := gang.Verify(l, gangs, wage, sugar); e != api.OK {
				t.Fatalf("Verify of %v, %d, %d and %d = %d", l, gangs, wage, sugar, e)
			}
		}
		for _, wage := range list(wages.Lo-1, wages.Hi+1, 0, gang.MaxGain, r.IntN(gang.MaxGain+1)) {
			outside := wage < wages.Lo || wage > wages.Hi
			if outside && gang.Verify(l, gangs, wage, sugar) == api.OK {
				t.Fatalf("Wages of %v and %d = %v, but %d proves %d, too", l, gangs, wages, wage, sugar)
			}
		}
		for _, wage := range append(list(wages.Lo, wages.Hi, r.IntN(gang.MaxGain+1)), list(0, 1, 2, 3, 4, 5, 6, 7, 8)...) {
			if sugar > 0 && gang.Verify(l, gangs, wage, sugar-1) == api.OK {
				t.Fatalf("the wage %d proves %d for %v and %d, the most is %d", wage, sugar-1, l, gangs, sugar)
			}
		}
	})
}

// TestP3_7_OneGang: a plan is a best one just if no exchange gains, and exchanges that gain lead to one.
func TestP3_7_OneGang(t *testing.T) {
	steps, longest := 0, 0
	manyFields(7, func(r *rand.Rand, l []gang.Field) {
		plan := anyPlan(r, l)
		gangs := used(plan) + r.IntN(3)
		want := sharedOut(l, gangs)[gangs]
		length := 0
		for {
			x := exchange(l, gangs, plan)
			if (x.e == api.ErrNone) != (sugarOf(l, plan) == want) {
				t.Fatalf("Exchange of %v, %d and %v = %v, the most is %d", l, gangs, plan, x, want)
			}
			if x.e != api.OK {
				break
			}
			after, is := afterExchange(l, gangs, plan, x.from, x.to)
			if !is || x.gain < 1 || sugarOf(l, after) != sugarOf(l, plan)+x.gain {
				t.Fatalf("Exchange of %v, %d and %v = %v", l, gangs, plan, x)
			}
			plan = after
			length++
		}
		steps += length
		longest = max(longest, length)
	})
	if steps < 300 || longest < 10 {
		t.Errorf("only %d exchanges, at most %d for one plan", steps, longest)
	}
}

// TestP3_7_Plans has all plans, and that of Best.
func TestP3_7_Plans(t *testing.T) {
	r := rand.New(rand.NewPCG(3, 77))
	for range 200 {
		l := anyFields(r, 4, 3, 1+r.IntN(6))
		gangs := anyGangs(r, l)
		plan, want := best(t, l, gangs)
		if x := exchange(l, gangs, plan); x.e != api.ErrNone {
			t.Fatalf("Best of %v and %d = %v, but Exchange %v", l, gangs, plan, x)
		}
		for plan := range plans(l) {
			if used(plan) > gangs {
				continue
			}
			if x := exchange(l, gangs, plan); (x.e == api.ErrNone) != (sugarOf(l, plan) == want) {
				t.Fatalf("Exchange of %v, %d and %v = %v, the most is %d", l, gangs, plan, x, want)
			}
		}
	}
}

// TestP3_8_Less: each step of All is at most as great as the one before it, and Best has the same sugar.
func TestP3_8_Less(t *testing.T) {
	manyFields(8, func(r *rand.Rand, l []gang.Field) {
		all, e := gang.All(l)
		if len(all) != room(l)+1 || all[0] != 0 || e != api.OK {
			t.Fatalf("All of %v = %v %d", l, all, e)
		}
		last := gang.MaxGain
		for n := 1; n < len(all); n++ {
			step := all[n] - all[n-1]
			if step < 0 || step > last {
				t.Fatalf("All of %v = %v, with the step %d", l, all, step)
			}
			last = step
		}
		for _, n := range list(0, r.IntN(len(all)), len(all)-1, len(all), gang.MaxGangs) {
			if _, sugar := best(t, l, n); sugar != all[min(n, len(all)-1)] {
				t.Fatalf("Best of %v and %d: %d, All %v", l, n, sugar, all)
			}
		}
	})
}

// TestP3_9_More: with one gang more the sugar is not less, and wages are not greater.
func TestP3_9_More(t *testing.T) {
	manyFields(9, func(r *rand.Rand, l []gang.Field) {
		_, last := best(t, l, 0)
		wages := wagesOf(t, l, 0)
		for n := 1; n <= min(room(l)+2, gang.MaxGangs); n++ {
			_, sugar := best(t, l, n)
			next := wagesOf(t, l, n)
			if sugar < last || next.Lo > wages.Lo || next.Hi > wages.Hi {
				t.Fatalf("%v: %d and %v with %d gangs, but %d and %v with one less", l, sugar, next, n, last, wages)
			}
			last, wages = sugar, next
		}
	})
}

// TestP3_9_Greater: with a greater gain the sugar is not less.
func TestP3_9_Greater(t *testing.T) {
	more := 0
	manyFields(10, func(r *rand.Rand, l []gang.Field) {
		gangs := anyGangs(r, l)
		_, before := best(t, l, gangs)
		for _, f := range l {
			most := gang.MaxGain
			for place := range f {
				f[place] += r.IntN(2) * min(most-f[place], 1+r.IntN(9))
				most = f[place]
			}
		}
		_, after := best(t, l, gangs)
		if after < before {
			t.Fatalf("%v with %d gangs: %d, before %d", l, gangs, after, before)
		}
		if after > before {
			more++
		}
	})
	if more < 100 {
		t.Errorf("only %d had more sugar", more)
	}
}

// TestP3_10_TwoValleys: gangs are divided between two lists of fields.
func TestP3_10_TwoValleys(t *testing.T) {
	manyFields(11, func(r *rand.Rand, l []gang.Field) {
		half := r.IntN(len(l) + 1)
		gangs := anyGangs(r, l)
		_, together := best(t, l, gangs)
		most := 0
		for n := range gangs + 1 {
			_, a := best(t, l[:half], n)
			_, b := best(t, l[half:], gangs-n)
			most = max(most, a+b)
		}
		if together != most {
			t.Fatalf("Best of %v and %d: %d, but %d with the first %d fields apart", l, gangs, together, most, half)
		}
	})
}

// within returns whether a span lies in another one.
func within(inner, outer api.Span) bool { return outer.Lo <= inner.Lo && inner.Hi <= outer.Hi }

// exactly returns guesses of which only these fields are true.
func exactly(l []gang.Field) []gang.Guess {
	known := make([]gang.Guess, len(l))
	for i, f := range l {
		for _, gain := range f {
			known[i] = append(known[i], span(gain, gain))
		}
	}
	return known
}

// between returns guesses within others, of which two lists of fields are true.
func between(a, b []gang.Field) []gang.Guess {
	l := make([]gang.Guess, len(a))
	for i := range a {
		for place := range a[i] {
			l[i] = append(l[i], span(min(a[i][place], b[i][place]), max(a[i][place], b[i][place])))
		}
	}
	return l
}

// TestP3_11_True: whatever gains are true, a best plan has shares and sugar within the spans (G1).
func TestP3_11_True(t *testing.T) {
	r := rand.New(rand.NewPCG(3, 11))
	for i := range 600 {
		l := anyGuesses(r, 4, 4, 1+r.IntN(20))
		if i%5 == 0 {
			l = anyGuesses(r, gang.MaxFields, gang.MaxTable, gang.MaxGain)
		}
		gangs := r.IntN(4 + 3*len(l))
		share, sugar, _ := gang.Shares(l, gangs)
		truth := anyTruth(r, l)
		plan, most := best(t, truth, gangs)
		if most < sugar.Lo || most > sugar.Hi {
			t.Fatalf("Shares of %v and %d: sugar %v, in truth %d", l, gangs, sugar, most)
		}
		for f, n := range plan {
			if n < share[f].Lo || n > share[f].Hi {
				t.Fatalf("Shares of %v and %d = %v, in truth %v of %v", l, gangs, share, plan, truth)
			}
		}
		if i%5 == 0 {
			continue
		}
		for _, plan := range bestPlans(truth, gangs) {
			for f, n := range plan {
				if n < share[f].Lo || n > share[f].Hi {
					t.Fatalf("Shares of %v and %d = %v, in truth also %v of %v", l, gangs, share, plan, truth)
				}
			}
		}
	}
}

// TestP3_11_Narrower: with guesses within others nothing becomes wider.
func TestP3_11_Narrower(t *testing.T) {
	r := rand.New(rand.NewPCG(3, 12))
	narrower := 0
	for i := range 1000 {
		l := anyGuesses(r, 4, 4, 1+r.IntN(20))
		if i%5 == 0 {
			l = anyGuesses(r, gang.MaxFields, gang.MaxTable, gang.MaxGain)
		}
		gangs := r.IntN(4 + 3*len(l))
		a, b := anyTruth(r, l), anyTruth(r, l)
		outer, outerSugar, _ := gang.Shares(l, gangs)
		middle, middleSugar, e := gang.Shares(between(a, b), gangs)
		inner, innerSugar, f := gang.Shares(exactly(a), gangs)
		if e != api.OK || f != api.OK {
			t.Fatalf("Shares of guesses within %v: %d %d", l, e, f)
		}
		if !within(middleSugar, outerSugar) || !within(innerSugar, middleSugar) || innerSugar.Lo != innerSugar.Hi {
			t.Fatalf("Shares of %v and %d: sugar %v, and within %v and %v", l, gangs, outerSugar, middleSugar, innerSugar)
		}
		for i := range l {
			if !within(middle[i], outer[i]) || !within(inner[i], middle[i]) {
				t.Fatalf("Shares of %v and %d = %v, and within %v and %v", l, gangs, outer, middle, inner)
			}
			if middle[i] != outer[i] {
				narrower++
			}
		}
	}
	if narrower < 300 {
		t.Errorf("only %d shares became narrower", narrower)
	}
}
