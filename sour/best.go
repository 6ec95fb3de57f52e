package sour

import "zafra/api"

// Best returns the best order.
func Best(l Line) (order []int, worst int, e api.Errno) {
	if e := Check(l); e != api.OK {
		return nil, 0, e
	}
	k := knownOf(l)
	worsts := k.worsts()
	var crushed set
	worst = worsts[crushed]
	for crushed != k.allLoads() {
		for load := range k.nexts(crushed).loads() {
			with := crushed.with(load)
			if k.sourIfLast(load, with) <= worst && worsts[with] <= worst {
				order = append(order, load)
				crushed = with
				break
			}
		}
	}
	return order, worst, api.OK
}

// worsts returns, for each set of loads that an order can begin with, the least worst of the loads after it.
func (k known) worsts() map[set]int {
	worsts := map[set]int{k.allLoads(): 0}
	var search func(crushed set) int
	search = func(crushed set) int {
		if worst, is := worsts[crushed]; is {
			return worst
		}
		worst := MaxSour
		for load := range k.nexts(crushed).loads() {
			with := crushed.with(load)
			worst = min(worst, max(k.sourIfLast(load, with), search(with)))
		}
		worsts[crushed] = worst
		return worst
	}
	search(0)
	return worsts
}

// nexts returns the loads that can be crushed after a set of loads.
func (k known) nexts(crushed set) set {
	var nexts set
	for load := range k.allLoads().loads() {
		if !crushed.has(load) && k.front[load].isWithin(crushed) {
			nexts = nexts.with(load)
		}
	}
	return nexts
}

// sourIfLast returns how sour a load can become if no loads but those of a set are crushed until its end.
func (k known) sourIfLast(load int, s set) int {
	end := k.Start.Hi
	for other := range s.loads() {
		end += k.Loads[other].Crush.Hi
	}
	return k.Kinds[k.Loads[load].Kind].sourAfter(k.Loads[load].Age.Hi + end)
}
