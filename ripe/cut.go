package ripe

import "zafra/api"

// Peaks returns the weeks in which the peak can lie.
func Peaks(f Field) ([]int, api.Errno) {
	b, e := possibleBounds(f)
	if e != api.OK {
		return nil, e
	}
	// With a week as sweet as can be, and all others as little, only this week and lows can be the greatest ones.
	return b.weeksFrom(b.most, greatest(b.low[0], b.low[1:b.weeks]...)), api.OK
}

// Ripe returns the weeks that are sweet enough.
func Ripe(f Field, least int) (surely, perhaps []int, e api.Errno) {
	b, e := possibleBounds(f)
	if e != api.OK {
		return nil, nil, e
	}
	// Beyond what a sweetness can be nothing changes, and products might not fit into 64 bits.
	enough := whole(min(max(least, 0), MaxSweet+1))
	return b.weeksFrom(b.least, enough), b.weeksFrom(b.most, enough), api.OK
}

// Regret returns the most that can be lost by cutting in a week.
func Regret(f Field, week int) (int, api.Errno) {
	b, e := possibleBounds(f)
	if e != api.OK {
		return 0, e
	}
	if !f.hasWeek(week) {
		return 0, api.ErrNone
	}
	regretOf := b.regrets()
	return regretOf(week).up(), api.OK
}

// Cut returns the week in which one can lose least.
func Cut(f Field) (week, regret int, e api.Errno) {
	b, e := possibleBounds(f)
	if e != api.OK {
		return 0, 0, e
	}
	regretOf := b.regrets()
	best := regretOf(0)
	for other := 1; other < b.weeks; other++ {
		if r := regretOf(other); r.below(best) {
			week, best = other, r
		}
	}
	return week, best.up(), api.OK
}

// regrets returns a function that returns the regret of a week. If another week becomes sweeter, only lines from lows
// on the far side of the week lift the week, too, and by less; so of all truths in which some other week is the
// greatest one, the loss is greatest where that one is as sweet as can be and the rest as little.
func (b bounds) regrets() func(week int) fraction {
	var cases []bounds
	for other := range b.weeks {
		cases = append(cases, b.raised(other))
	}
	return func(week int) fraction {
		var losses []fraction
		for other, raised := range cases {
			losses = append(losses, raised.low[other].minus(raised.least(week)))
		}
		return greatest(whole(0), losses...)
	}
}
