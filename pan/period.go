package pan

import (
	"iter"

	"zafra/api"
)

// The greatest Den of a period that is an argument.
const maxDen = 1000

func (p Period) check() api.Errno {
	if !isWithin(p.Num, 0, MaxTime) || !isWithin(p.Den, 1, maxDen) {
		return api.ErrRange
	}
	return api.OK
}

// lowest returns the same period in lowest terms.
func (p Period) lowest() Period {
	divisor, rest := p.Num, p.Den
	for rest > 0 {
		divisor, rest = rest, divisor%rest
	}
	return Period{Num: p.Num / divisor, Den: p.Den / divisor}
}

// demand returns when the To of a wait begins at the earliest in a timetable, if the From begins when it says.
func (p Period) demand(w Wait, at minutes) int { return at[w.From] + w.most()*p.Den - w.Back*p.Num }

func (p Period) isBroken(w Wait, at minutes) bool { return p.demand(w, at) > at[w.To] }

// isTight returns whether the To of a wait begins just when the wait lets it.
func (p Period) isTight(w Wait, at minutes) bool { return p.demand(w, at) == at[w.To] }

// demands yields what each wait demands of a timetable, as the timetable is by then.
func (p Period) demands(w Work, at *minutes) iter.Seq2[int, int] {
	return func(yield func(int, int) bool) {
		for n, wait := range w.Waits {
			if !yield(n, p.demand(wait, *at)) {
				return
			}
		}
	}
}
