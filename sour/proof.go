package sour

import (
	"slices"

	"zafra/api"
)

// Prove returns a set of loads that shows that no order is better.
func Prove(l Line) ([]int, api.Errno) {
	_, worst, e := Best(l)
	if e != api.OK {
		return nil, e
	}
	if worst == 0 {
		return nil, api.ErrNone
	}
	return slices.Collect(knownOf(l).proof(worst).loads()), api.OK
}

// proof returns a set that shows the worst of the best order. From a set that has no better order it leaves out a load
// that is less sour as the last one: the rest has no better order, either, or the load could follow after it.
func (k known) proof(worst int) set {
	s := k.allLoads()
	for {
		load, is := k.lessSour(s, worst)
		if !is {
			return s
		}
		s = s.without(load)
	}
}

// lessSour returns a load that can be the last one of a set and is less sour then, if there is one.
func (k known) lessSour(s set, sour int) (load int, is bool) {
	for load := range k.lasts(s).loads() {
		if k.sourIfLast(load, s) < sour {
			return load, true
		}
	}
	return 0, false
}

// lasts returns the loads of a set that have no other load of it behind them.
func (k known) lasts(s set) set {
	lasts := s
	for load := range s.loads() {
		lasts &^= k.front[load]
	}
	return lasts
}

// Verify checks such a set.
func Verify(l Line, sour int, set []int) api.Errno {
	if e := Check(l); e != api.OK {
		return e
	}
	if sour < 1 || sour > MaxSour {
		return api.ErrRange
	}
	s, e := l.setOf(set)
	if e != api.OK {
		return e
	}
	if _, is := knownOf(l).lessSour(s, sour); is {
		return api.ErrProof
	}
	return api.OK
}

// setOf returns the set of some loads, or the error of their list.
func (l Line) setOf(loads []int) (set, api.Errno) {
	if len(loads) == 0 {
		return 0, api.ErrEmpty
	}
	var s set
	for i, load := range loads {
		if !l.isLoad(load) {
			return 0, api.ErrNone
		}
		if i > 0 && load <= loads[i-1] {
			return 0, api.ErrOrder
		}
		s = s.with(load)
	}
	return s, api.OK
}
