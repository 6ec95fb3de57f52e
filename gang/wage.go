package gang

import "zafra/api"

// Bound returns the bound of a wage.
func Bound(l []Field, gangs, wage int) (int, api.Errno) {
	if e := checkFor(l, gangs); e != api.OK {
		return 0, e
	}
	if !isGain(wage) {
		return 0, api.ErrRange
	}
	bound := wage * gangs
	for _, f := range l {
		for _, gain := range f {
			bound += max(0, gain-wage)
		}
	}
	return bound, api.OK
}

// Wages returns all wages that prove the most sugar. They are those that the last gang of a best plan is worth, and
// that one gang more is not worth more than.
func Wages(l []Field, gangs int) (api.Span, api.Errno) {
	if e := checkFor(l, gangs); e != api.OK {
		return api.Span{}, e
	}
	wages := api.Span{Lo: 0, Hi: MaxGain}
	for s := range greatestFirst(l) {
		if gangs == 0 {
			wages.Lo = s.sugar
			break
		}
		gangs--
		wages.Hi = s.sugar
	}
	if gangs > 0 { // Some gangs have no field.
		wages.Hi = 0
	}
	return wages, api.OK
}

// Verify checks a wage.
func Verify(l []Field, gangs, wage, sugar int) api.Errno {
	bound, e := Bound(l, gangs, wage)
	if e != api.OK {
		return e
	}
	if sugar < 0 {
		return api.ErrRange
	}
	if bound > sugar {
		return api.ErrProof
	}
	return api.OK
}
