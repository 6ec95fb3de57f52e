package sour

import "zafra/api"

// Delay returns how long the mill may stand still.
func Delay(l Line, order []int, limit int) (int, api.Errno) {
	worst, e := Worst(l, order)
	if e != api.OK {
		return 0, e
	}
	if limit < 0 || limit > MaxSour {
		return 0, api.ErrRange
	}
	if worst > limit {
		return 0, api.ErrOver
	}
	delay := api.Never
	for i, end := range knownOf(l).ends(order) {
		load := l.Loads[i]
		if tooLate, passes := l.Kinds[load.Kind].passes(limit); passes {
			delay = min(delay, tooLate-1-load.Age.Hi-end.Hi)
		}
	}
	return delay, api.OK
}

// passes returns the minutes after which cane is more sour than a limit, if it ever is.
func (k Kind) passes(limit int) (minutes int, is bool) {
	for _, step := range k {
		if step.Sour > limit {
			return step.After, true
		}
	}
	return 0, false
}
