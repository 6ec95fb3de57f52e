package ripe

import "zafra/api"

// Clash returns three weeks that show that a field is not possible.
func Clash(f Field) ([]int, api.Errno) {
	if e := Check(f); e != api.OK {
		return nil, e
	}
	weeks := boundsOf(f).clash()
	if weeks == nil {
		return nil, api.ErrNone
	}
	return weeks, api.OK
}

// Verify checks three weeks.
func Verify(f Field, weeks []int) api.Errno {
	if e := Check(f); e != api.OK {
		return e
	}
	if len(weeks) != 3 {
		return api.ErrShape
	}
	for _, week := range weeks {
		if !f.hasWeek(week) {
			return api.ErrNone
		}
	}
	if !boundsOf(f).clashIn(weeks[0], weeks[1], weeks[2]) {
		return api.ErrProof
	}
	return api.OK
}

// clash returns three weeks with a clash, or nil if there is none.
func (b bounds) clash() []int {
	for week := range b.weeks {
		if b.clashIn(week, week, week) {
			return []int{week, week, week}
		}
		for l := range b.across(week) {
			if b.clashIn(l.from.week, week, l.to.week) {
				return []int{l.from.week, week, l.to.week}
			}
		}
	}
	return nil
}

// clashIn reports whether three weeks are a clash that holds.
func (b bounds) clashIn(i, j, k int) bool {
	if i == j && j == k {
		return b.low[j].above(b.high[j])
	}
	between := line{from: b.lowPoint(i), to: b.lowPoint(k)}
	return i < j && j < k && between.at(j).above(b.high[j])
}
