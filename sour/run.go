package sour

import "zafra/api"

// known is a line that Check allows, with what is known of its tracks.
type known struct {
	Line
	track [MaxLoads][]int // The track of each load.
	front [MaxLoads]set   // The loads behind which each load stands.
}

func knownOf(l Line) known {
	k := known{Line: l}
	for _, track := range l.Tracks {
		var front set
		for _, load := range track {
			k.track[load], k.front[load] = track, front
			front = front.with(load)
		}
	}
	return k
}

// Run returns the ends of all loads, and how sour they become.
func Run(l Line, order []int) (ends, sours []api.Span, e api.Errno) {
	if e := Check(l); e != api.OK {
		return nil, nil, e
	}
	k := knownOf(l)
	if e := k.checkOrder(order); e != api.OK {
		return nil, nil, e
	}
	ends = k.ends(order)
	for i, load := range l.Loads {
		sours = append(sours, eachEnd(sum(load.Age, ends[i]), l.Kinds[load.Kind].sourAfter))
	}
	return ends, sours, api.OK
}

// Worst returns how sour a load can become.
func Worst(l Line, order []int) (int, api.Errno) {
	_, sours, e := Run(l, order)
	worst := 0
	for _, s := range sours {
		worst = max(worst, s.Hi)
	}
	return worst, e
}

// checkOrder returns the error of an order. A load is right if all loads of its track up to itself were there before.
func (k known) checkOrder(order []int) api.Errno {
	if len(order) != len(k.Loads) {
		return api.ErrShape
	}
	var crushed set
nextLoad:
	for _, load := range order {
		if !k.isLoad(load) {
			return api.ErrNone
		}
		if crushed.has(load) {
			return api.ErrTwice
		}
		for _, front := range k.track[load] {
			if front == load {
				crushed = crushed.with(load)
				continue nextLoad
			}
			if !crushed.has(front) {
				return api.ErrRule
			}
		}
	}
	return api.OK
}

// ends returns the end of each load in an order.
func (k known) ends(order []int) []api.Span {
	ends := make([]api.Span, len(order))
	end := k.Start
	for _, load := range order {
		end = sum(end, k.Loads[load].Crush)
		ends[load] = end
	}
	return ends
}

func sum(a, b api.Span) api.Span { return api.Span{Lo: a.Lo + b.Lo, Hi: a.Hi + b.Hi} }

// eachEnd returns the span of the results of a function that does not descend.
func eachEnd(s api.Span, f func(int) int) api.Span { return api.Span{Lo: f(s.Lo), Hi: f(s.Hi)} }

// sourAfter returns how sour cane is that was cut so many minutes ago.
func (k Kind) sourAfter(minutes int) int {
	sour := 0
	for _, step := range k {
		if step.After <= minutes {
			sour = step.Sour
		}
	}
	return sour
}
