package sour

import "iter"

// set is a set of loads: a bit for the number of each one.
type set uint16

func (l Line) allLoads() set { return 1<<len(l.Loads) - 1 }

func (s set) has(load int) bool { return s&(1<<load) != 0 }

func (s set) with(load int) set { return s | 1<<load }

func (s set) without(load int) set { return s &^ (1 << load) }

func (s set) isWithin(other set) bool { return s&^other == 0 }

// loads ranges over the loads of a set, in ascending order.
func (s set) loads() iter.Seq[int] {
	return func(yield func(int) bool) {
		for load := range MaxLoads {
			if s.has(load) && !yield(load) {
				return
			}
		}
	}
}
