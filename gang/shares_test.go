package gang_test

import (
	"math/rand/v2"
	"slices"
	"testing"

	"zafra/api"
	"zafra/gang"
)

func TestP3_5_Shares(t *testing.T) {
	const most = gang.MaxGain
	for i, x := range []struct {
		guesses []gang.Guess
		gangs   int
		share   []api.Span
		sugar   api.Span
	}{
		{nil, 0, nil, span(0, 0)},
		{nil, 200, nil, span(0, 0)},
		{guesses(nil, guess(2, 3)), 1, []api.Span{span(0, 0), span(1, 1)}, span(2, 3)},
		{chapterGuesses(), 0, []api.Span{span(0, 0), span(0, 0), span(0, 0)}, span(0, 0)},
		{chapterGuesses(), 1, []api.Span{span(0, 1), span(0, 1), span(0, 0)}, span(8, 9)},
		{chapterGuesses(), 2, []api.Span{span(1, 2), span(0, 1), span(0, 1)}, span(14, 17)},
		{chapterGuesses(), 3, []api.Span{span(1, 2), span(0, 1), span(0, 1)}, span(19, 24)},
		{chapterGuesses(), 5, []api.Span{span(2, 2), span(2, 2), span(1, 1)}, span(26, 33)},
		{chapterGuesses(), 200, []api.Span{span(2, 2), span(2, 2), span(1, 1)}, span(26, 33)},
		// Gains that are equal in truth.
		{guesses(guess(4, 4, 4, 4), guess(4, 4)), 2, []api.Span{span(1, 2), span(0, 1)}, span(8, 8)},
		{guesses(guess(4, 5), guess(5, 6)), 1, []api.Span{span(0, 1), span(0, 1)}, span(5, 6)},
		{guesses(guess(5, 6), guess(4, 5)), 1, []api.Span{span(0, 1), span(0, 1)}, span(5, 6)},
		{guesses(guess(4, 4), guess(5, 6)), 1, []api.Span{span(0, 0), span(1, 1)}, span(5, 6)},
		// Gains of nothing can be left, or taken as long as there are gangs.
		{guesses(guess(5, 5, 0, 0), guess(3, 3)), 2, []api.Span{span(1, 1), span(1, 1)}, span(8, 8)},
		{guesses(guess(5, 5, 0, 0), guess(3, 3)), 3, []api.Span{span(1, 2), span(1, 1)}, span(8, 8)},
		{guesses(guess(0, 0, 0, 0), guess(0, 0)), 2, []api.Span{span(0, 2), span(0, 1)}, span(0, 0)},
		{guesses(guess(0, 4), guess(0, 4)), 1, []api.Span{span(0, 1), span(0, 1)}, span(0, 4)},
		{guesses(guess(0, 4), guess(0, 4)), 2, []api.Span{span(0, 1), span(0, 1)}, span(0, 8)},
		{guesses(guess(0, 0, 0, 0)), 0, []api.Span{span(0, 0)}, span(0, 0)},
		{guesses(guess(3, 3, 0, 2), guess(1, 1)), 2, []api.Span{span(1, 2), span(0, 1)}, span(4, 5)},
		{guesses(guess(0, most), guess(most, most)), 1, []api.Span{span(0, 1), span(0, 1)}, span(most, most)},
	} {
		share, sugar, e := gang.Shares(x.guesses, x.gangs)
		if !slices.Equal(share, x.share) || sugar != x.sugar || e != api.OK {
			t.Errorf("Shares %d = %v %v %d, want %v %v", i, share, sugar, e, x.share, x.sugar)
		}
	}
}

func TestP3_5_SharesFull(t *testing.T) {
	full := make([]gang.Guess, gang.MaxFields)
	for i := range full {
		full[i] = slices.Repeat(guess(0, gang.MaxGain), gang.MaxTable)
	}
	for gangs, want := range map[int]api.Span{
		0: span(0, 0), 5: span(0, 5), 10: span(0, 10), 110: span(0, 10), 111: span(0, 10), 120: span(0, 10), 200: span(0, 10),
	} {
		share, sugar, e := gang.Shares(full, gangs)
		if !slices.Equal(share, slices.Repeat([]api.Span{want}, gang.MaxFields)) || e != api.OK {
			t.Errorf("Shares of %d = %v %d, want %v", gangs, share, e, want)
		}
		if sugar != span(0, min(gangs, 120)*gang.MaxGain) {
			t.Errorf("Shares of %d: sugar %v", gangs, sugar)
		}
	}
	for i := range full { // No gain is 0 any more, so that all gangs are needed.
		full[i] = slices.Repeat(guess(1, gang.MaxGain), gang.MaxTable)
	}
	share, sugar, e := gang.Shares(full, 117)
	if !slices.Equal(share, slices.Repeat([]api.Span{span(7, 10)}, gang.MaxFields)) || sugar != span(117, 117000000) || e != api.OK {
		t.Errorf("Shares of 117 = %v %v %d", share, sugar, e)
	}
}

func TestP3_5_Errors(t *testing.T) {
	const most = gang.MaxGain
	many := make([]gang.Guess, gang.MaxFields+1)
	many[0] = guess(5, 4)
	long := make(gang.Guess, gang.MaxTable+1)
	long[0] = span(5, 4)
	for i, x := range []struct {
		guesses []gang.Guess
		gangs   int
		want    api.Errno
	}{
		{many, 0, api.ErrMany},
		{make([]gang.Guess, gang.MaxFields+1), -1, api.ErrMany},
		{guesses(nil, long), 0, api.ErrMany},
		{guesses(guess(5, 4)), 0, api.ErrRange},
		{guesses(guess(-1, 4)), 0, api.ErrRange},
		{guesses(guess(-5, -4)), 0, api.ErrRange},
		{guesses(guess(0, most+1)), 0, api.ErrRange},
		{guesses(guess(most+1, most+1)), 0, api.ErrRange},
		{guesses(guess(lowest, highest)), 0, api.ErrRange},
		{guesses(guess(highest, lowest)), 0, api.ErrRange},
		{guesses(guess(3, 5, 4, 5)), 0, api.ErrOrder},
		{guesses(guess(3, 5, 3, 6)), 0, api.ErrOrder},
		{guesses(guess(3, 5, 4, 6)), 0, api.ErrOrder},
		{guesses(guess(3, 5, 2, 2, 3, 3)), 0, api.ErrOrder},
		// The first span, and the first guess, decides; a span is looked at before the order.
		{guesses(guess(3, 5, 3, 6, 9, 1)), 0, api.ErrOrder},
		{guesses(guess(3, 5, 9, 1, 3, 6)), 0, api.ErrRange},
		{guesses(guess(3, 5, 6, most+1)), 0, api.ErrRange},
		{guesses(nil, guess(3, 5, 3, 6), long, guess(5, 4)), 0, api.ErrOrder},
		{guesses(guess(5, 4), long), 0, api.ErrRange},
		{guesses(long, guess(5, 4)), 0, api.ErrMany},
		{guesses(guess(3, 5, 3, 6)), -1, api.ErrOrder},
		{chapterGuesses(), -1, api.ErrRange},
		{chapterGuesses(), gang.MaxGangs + 1, api.ErrRange},
		{nil, lowest, api.ErrRange},
		{nil, highest, api.ErrRange},
	} {
		share, sugar, e := gang.Shares(x.guesses, x.gangs)
		if len(share) != 0 || sugar != (api.Span{}) || e != x.want {
			t.Errorf("Shares %d = %v %v %d, want %d", i, share, sugar, e, x.want)
		}
	}
	for i, l := range [][]gang.Guess{
		guesses(guess(0, 0)), guesses(guess(most, most, 0, most)), make([]gang.Guess, gang.MaxFields),
		guesses(make(gang.Guess, gang.MaxTable)), guesses(guess(3, 5, 3, 5), guess(9, 9)),
	} {
		for _, gangs := range list(0, gang.MaxGangs) {
			if _, _, e := gang.Shares(l, gangs); e != api.OK {
				t.Errorf("Shares of guesses %d, %d: %d", i, gangs, e)
			}
		}
	}
}

// inTruth is how many truths there were, and what was so in some of them.
type inTruth struct {
	truths int
	has    []map[int]bool // by fields: how many gangs it has in some best plan
	sugar  map[int]bool
}

// allTruths looks at each best plan in each truth.
func allTruths(l []gang.Guess, gangs int) inTruth {
	seen := inTruth{sugar: map[int]bool{}}
	for range l {
		seen.has = append(seen.has, map[int]bool{})
	}
	for valley := range valleys(l) {
		seen.truths++
		for _, plan := range bestPlans(valley, gangs) {
			for i, n := range plan {
				seen.has[i][n] = true
			}
			seen.sugar[sugarOf(valley, plan)] = true
		}
	}
	return seen
}

// isAllOf returns whether a span has just the numbers of a set.
func isAllOf(s api.Span, set map[int]bool) bool {
	for n := s.Lo; n <= s.Hi; n++ {
		if !set[n] {
			return false
		}
	}
	return len(set) == s.Hi-s.Lo+1
}

// TestP3_5_EachTruth holds Shares against each best plan in each truth, with each number between the ends.
func TestP3_5_EachTruth(t *testing.T) {
	r := rand.New(rand.NewPCG(3, 5))
	wide, truths := 0, 0
	for truths < 400000 {
		l := anyGuesses(r, 3, 3, 1+r.IntN(5))
		gangs := r.IntN(7)
		share, sugar, e := gang.Shares(l, gangs)
		if len(share) != len(l) || e != api.OK {
			t.Fatalf("Shares of %v and %d = %v %v %d", l, gangs, share, sugar, e)
		}
		seen := allTruths(l, gangs)
		truths += 1 + seen.truths
		for i, s := range share {
			if !isAllOf(s, seen.has[i]) {
				t.Fatalf("Shares of %v and %d = %v, but the field %d has %v", l, gangs, share, i, seen.has[i])
			}
			if s.Lo < s.Hi {
				wide++
			}
		}
		if !seen.sugar[sugar.Lo] || !seen.sugar[sugar.Hi] || !isAllOf(sugar, seen.sugar) {
			t.Fatalf("Shares of %v and %d: sugar %v, but %v", l, gangs, sugar, seen.sugar)
		}
	}
	if wide < 300 {
		t.Errorf("only %d shares were wide", wide)
	}
}
