package ripe

import (
	"cmp"
	"iter"
)

// bounds are the lows and the highs of weeks.
type bounds struct {
	weeks int
	low   [MaxWeeks]fraction
	high  [MaxWeeks]fraction
}

func boundsOf(f Field) bounds {
	b := bounds{weeks: f.Weeks}
	for week := range f.Weeks {
		b.low[week], b.high[week] = whole(f.Range.Lo), whole(f.Range.Hi)
	}
	narrow := func(week, low, high int) {
		b.low[week] = greatest(b.low[week], whole(low))
		b.high[week] = smallest(b.high[week], whole(high))
	}
	for _, s := range f.Samples {
		narrow(s.Week, s.Value-s.Off, s.Value+s.Off)
	}
	return b
}

// point is a sweetness in a week.
type point struct {
	week  int
	sweet fraction
}

// line is the straight one through two points of different weeks.
type line struct {
	from point
	to   point
}

func (l line) at(week int) fraction {
	a, b := l.from, l.to
	// In this order the under stays above 0.
	if a.week > b.week {
		a, b = b, a
	}
	ofA := a.sweet.over * b.sweet.under * (b.week - week)
	ofB := b.sweet.over * a.sweet.under * (week - a.week)
	return fraction{over: ofA + ofB, under: a.sweet.under * b.sweet.under * (b.week - a.week)}
}

// valuesAt returns the sweetness of lines in a week.
func valuesAt(week int, lines iter.Seq[line]) []fraction {
	var values []fraction
	for l := range lines {
		values = append(values, l.at(week))
	}
	return values
}

func (b bounds) lowPoint(week int) point { return point{week: week, sweet: b.low[week]} }

func (b bounds) highPoint(week int) point { return point{week: week, sweet: b.high[week]} }

// across yields the lines across a week, from a low before it to a low after it. No truth lies below them, since its
// steps never become greater.
func (b bounds) across(week int) iter.Seq[line] {
	return func(yield func(line) bool) {
		for before := range week {
			for after := week + 1; after < b.weeks; after++ {
				if !yield(line{from: b.lowPoint(before), to: b.lowPoint(after)}) {
					return
				}
			}
		}
	}
}

// toward yields the lines that come toward a week, from a low through a high that is nearer to the week. No truth
// lies above them in the week, or the line from the low to the week would lie above the high.
func (b bounds) toward(week int) iter.Seq[line] {
	return func(yield func(line) bool) {
		for far := range b.weeks {
			step := cmp.Compare(week, far)
			for near := far + step; near != week; near += step {
				if !yield(line{from: b.lowPoint(far), to: b.highPoint(near)}) {
					return
				}
			}
		}
	}
}

// least is the least sweetness of a week. All weeks have theirs in one truth: the lows with straight lines over them.
func (b bounds) least(week int) fraction {
	return greatest(b.low[week], valuesAt(week, b.across(week))...)
}

// most is the greatest sweetness of a week, if the bounds do not clash.
func (b bounds) most(week int) fraction {
	return smallest(b.high[week], valuesAt(week, b.toward(week))...)
}

// raised returns the bounds if a week is as sweet as can be.
func (b bounds) raised(week int) bounds {
	b.low[week] = b.most(week)
	return b
}

// weeksFrom returns the weeks in which a bound is at least some sweetness.
func (b bounds) weeksFrom(bound func(week int) fraction, least fraction) []int {
	var weeks []int
	for week := range b.weeks {
		if !bound(week).below(least) {
			weeks = append(weeks, week)
		}
	}
	return weeks
}
