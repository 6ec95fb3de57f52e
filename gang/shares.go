package gang

import (
	"slices"

	"zafra/api"
)

// Shares returns how many gangs fields have in best plans.
func Shares(l []Guess, gangs int) (share []api.Span, sugar api.Span, e api.Errno) {
	if e := checkGuesses(l, gangs); e != api.OK {
		return nil, api.Span{}, e
	}
	low := eachTurned(l, fieldBy(func(s api.Span) int { return s.Lo }))
	high := eachTurned(l, fieldBy(func(s api.Span) int { return s.Hi }))
	for i := range l {
		share = append(share, api.Span{
			Lo: fewestGangs(low[i], without(high, i), gangs),
			Hi: mostGangs(high[i], without(low, i), gangs),
		})
	}
	_, sugar.Lo = bestPlan(low, gangs)
	_, sugar.Hi = bestPlan(high, gangs)
	return share, sugar, api.OK
}

// fieldBy returns a function that turns a guess into a field, with a number of each of its spans.
func fieldBy(number func(api.Span) int) func(Guess) Field {
	return func(g Guess) Field {
		f := make(Field, len(g))
		for i, s := range g {
			f[i] = number(s)
		}
		return f
	}
}

func eachTurned(l []Guess, turn func(Guess) Field) []Field {
	fields := make([]Field, len(l))
	for i, g := range l {
		fields[i] = turn(g)
	}
	return fields
}

func without(l []Field, i int) []Field { return slices.Concat(l[:i], l[i+1:]) }

// mostGangs returns the most gangs that a field has in a best plan. It is greatest if the field brings as much as it
// can, and the others as little, and if equal gains are taken from it first.
func mostGangs(f Field, others []Field, gangs int) int {
	plan, _ := bestPlan(slices.Concat([]Field{f}, others), gangs)
	return plan[0]
}

// fewestGangs returns the fewest gangs that a field has in a best plan. It is least if the field brings as little as
// it can, and the others as much, and if equal gains are taken from it last, and gains of nothing not at all.
func fewestGangs(f Field, others []Field, gangs int) int {
	if zero := slices.Index(f, 0); zero >= 0 {
		f = f[:zero]
	}
	plan, _ := bestPlan(slices.Concat(others, []Field{f}), gangs)
	return plan[len(others)]
}

// checkGuesses returns the error of guesses and of how many gangs there are.
func checkGuesses(l []Guess, gangs int) api.Errno {
	if len(l) > MaxFields {
		return api.ErrMany
	}
	for _, g := range l {
		if e := g.check(); e != api.OK {
			return e
		}
	}
	if !isGangs(gangs) {
		return api.ErrRange
	}
	return api.OK
}

func (g Guess) check() api.Errno {
	if len(g) > MaxTable {
		return api.ErrMany
	}
	for i, s := range g {
		if s.Lo > s.Hi || !isGain(s.Lo) || !isGain(s.Hi) {
			return api.ErrRange
		}
		if i > 0 && (s.Lo > g[i-1].Lo || s.Hi > g[i-1].Hi) {
			return api.ErrOrder
		}
	}
	return api.OK
}
