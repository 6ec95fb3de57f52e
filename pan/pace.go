package pan

import "zafra/api"

// Pace returns the least period that can be kept.
func Pace(w Work) (Period, api.Errno) {
	if e := Check(w); e != api.OK {
		return Period{}, e
	}
	p, _ := w.pace()
	return p, api.OK
}

// Kept reports whether a period can be kept.
func Kept(w Work, p Period) (bool, api.Errno) {
	if e := Check(w); e != api.OK {
		return false, e
	}
	if e := p.check(); e != api.OK {
		return false, e
	}
	_, slower := w.keep(p)
	return slower == nil, api.OK
}

// pace returns the pace, in lowest terms, and the timetable for it whose numbers are as small as they can be.
func (w Work) pace() (Period, minutes) {
	p := Period{Num: 0, Den: 1}
	for {
		at, slower := w.keep(p)
		if slower == nil {
			return p, at
		}
		// No lesser period can be kept. This ends, for each cycle is slower than the one before.
		p = w.periodOf(slower)
	}
}
