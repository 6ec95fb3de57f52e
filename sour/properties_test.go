package sour_test

import (
	"math/rand/v2"
	"slices"
	"testing"

	"zafra/api"
	"zafra/sour"
)

func has(s api.Span, n int) bool { return s.Lo <= n && n <= s.Hi }

// TestP4_6_Truth: whatever is true, ends and sourness lie within what Run returns, and Best keeps its worst (G1).
func TestP4_6_Truth(t *testing.T) {
	manyLines(6, sour.MaxLoads, func(r *rand.Rand, l sour.Line) {
		order, worst := best(t, l)
		other := anyOrder(r, l)
		said, ofBest := run(t, l, other), run(t, l, order)
		if ofBest.worst != worst {
			t.Fatalf("Best of %v = %v %d, its Worst is %d", l, order, worst, ofBest.worst)
		}
		for range 10 {
			truth := anyTruth(r, l)
			ends, sours := crushIn(l, other, truth)
			for load := range l.Loads {
				if !has(said.ends[load], ends[load]) || !has(said.sours[load], sours[load]) {
					t.Fatalf("%v, order %v: Run = %v, in truth %v %v", l, other, said, ends, sours)
				}
			}
			if _, sours := crushIn(l, order, truth); greatest(sours) > worst {
				t.Fatalf("Best of %v = %v %d, in truth %v", l, order, worst, sours)
			}
		}
	})
}

// TestP4_7_Worst: there is a truth in which some load is as sour as the worst of an order (G3).
func TestP4_7_Worst(t *testing.T) {
	manyLines(72, sour.MaxLoads, func(r *rand.Rand, l sour.Line) {
		order := anyOrder(r, l)
		worst, e := sour.Worst(l, order)
		if _, sours := crushIn(l, order, latest(l)); e != api.OK || greatest(sours) != worst {
			t.Fatalf("Worst of %v, order %v = %d %d, in truth %v", l, order, worst, e, sours)
		}
	})
}

// TestP4_10_Later: with a greater Age.Hi, Crush.Hi or Start.Hi nothing becomes less sour.
func TestP4_10_Later(t *testing.T) {
	worse, bestWorse := 0, 0
	manyLines(10, sour.MaxLoads, func(r *rand.Rand, l sour.Line) {
		order := anyOrder(r, l)
		_, worst := best(t, l)
		before := run(t, l, order).worst
		later := cloneLine(l)
		more := func(s *api.Span, most int) {
			if r.IntN(3) == 0 {
				s.Hi = min(most, s.Hi+1+r.IntN(1+s.Hi/4))
			}
		}
		more(&later.Start, sour.MaxMinutes)
		for i := range later.Loads {
			more(&later.Loads[i].Age, sour.MaxMinutes)
			more(&later.Loads[i].Crush, sour.MaxCrush)
		}
		_, laterWorst := best(t, later)
		after := run(t, later, order).worst
		if laterWorst < worst || after < before {
			t.Fatalf("Best of %v: %d, of %v: %d; order %v: %d and %d", l, worst, later, laterWorst, order, before, after)
		}
		if laterWorst > worst {
			bestWorse++
		}
		if after > before {
			worse++
		}
	})
	if worse < 50 || bestWorse < 50 {
		t.Errorf("%d orders and %d best orders became worse", worse, bestWorse)
	}
}

// renumbered returns a line whose load i has the number numbers[i].
func renumbered(l sour.Line, numbers []int) sour.Line {
	l = cloneLine(l)
	loads := slices.Clone(l.Loads)
	for i, load := range loads {
		l.Loads[numbers[i]] = load
	}
	for _, track := range l.Tracks {
		for place, load := range track {
			track[place] = numbers[load]
		}
	}
	return l
}

// TestP4_10_Fewer: without a load that is alone on its track, the best order does not become worse.
func TestP4_10_Fewer(t *testing.T) {
	less := 0
	manyLines(11, sour.MaxLoads, func(r *rand.Rand, l sour.Line) {
		_, worst := best(t, l)
		for place, track := range l.Tracks {
			if len(track) != 1 {
				continue
			}
			// It gets the last number, and goes.
			last := len(l.Loads) - 1
			numbers := make([]int, len(l.Loads))
			for i := range numbers {
				numbers[i] = i
			}
			numbers[track[0]], numbers[last] = last, track[0]
			fewer := renumbered(l, numbers)
			fewer.Loads = fewer.Loads[:last]
			fewer.Tracks = slices.Delete(fewer.Tracks, place, place+1)
			_, after := best(t, fewer)
			if after > worst {
				t.Fatalf("Best of %v: %d, without load %d: %d", l, worst, track[0], after)
			}
			if after < worst {
				less++
			}
		}
	})
	if less < 50 {
		t.Errorf("only %d lines became better", less)
	}
}

// TestP4_11_Divided: if tracks are divided into tracks of one load each, the best order does not become worse.
func TestP4_11_Divided(t *testing.T) {
	less := 0
	manyLines(12, sour.MaxLoads, func(r *rand.Rand, l sour.Line) {
		_, worst := best(t, l)
		divided := cloneLine(l)
		for range min(2, len(l.Tracks)) {
			t := r.IntN(len(divided.Tracks))
			track := divided.Tracks[t]
			divided.Tracks = slices.Delete(divided.Tracks, t, t+1)
			for _, load := range track {
				divided.Tracks = append(divided.Tracks, list(load))
			}
		}
		_, after := best(t, divided)
		_, all := best(t, single(l))
		if after > worst || all > after {
			t.Fatalf("Best of %v: %d, with the tracks %v: %d, with none: %d", l, worst, divided.Tracks, after, all)
		}
		if after < worst {
			less++
		}
	})
	if less < 20 {
		t.Errorf("only %d lines became better", less)
	}
}

// TestP4_11_Order: the order of the tracks does not matter.
func TestP4_11_Order(t *testing.T) {
	manyLines(13, sour.MaxLoads, func(r *rand.Rand, l sour.Line) {
		order, worst := best(t, l)
		other := anyOrder(r, l)
		said := run(t, l, other)
		delay, e := sour.Delay(l, other, said.worst)
		mixed := cloneLine(l)
		r.Shuffle(len(mixed.Tracks), func(i, j int) {
			mixed.Tracks[i], mixed.Tracks[j] = mixed.Tracks[j], mixed.Tracks[i]
		})
		if o, w := best(t, mixed); !slices.Equal(o, order) || w != worst {
			t.Fatalf("Best of %v = %v %d, with the tracks %v: %v %d", l, order, worst, mixed.Tracks, o, w)
		}
		if got := run(t, mixed, other); !got.equals(said) {
			t.Fatalf("Run of %v = %v, with the tracks %v: %v", l, said, mixed.Tracks, got)
		}
		if d, f := sour.Delay(mixed, other, said.worst); d != delay || e != f {
			t.Fatalf("Delay of %v = %d %d, with the tracks %v: %d %d", l, delay, e, mixed.Tracks, d, f)
		}
		set, e := sour.Prove(mixed)
		if (e == api.OK) != (worst > 0) || e == api.OK && sour.Verify(l, worst, set) != api.OK {
			t.Fatalf("Prove of %v = %v %d, the worst is %d", mixed, set, e, worst)
		}
	})
}

// TestP4_11_OneTrack: with one track alone there is one order alone.
func TestP4_11_OneTrack(t *testing.T) {
	wrong := 0
	manyLines(14, sour.MaxLoads, func(r *rand.Rand, l sour.Line) {
		track := r.Perm(len(l.Loads))
		if len(track) == 0 {
			return
		}
		l.Tracks = [][]int{track}
		order, worst := best(t, l)
		if !slices.Equal(order, track) || worst != run(t, l, track).worst {
			t.Fatalf("Best of %v = %v %d, on the track %v", l, order, worst, track)
		}
		if other := r.Perm(len(track)); !slices.Equal(other, track) {
			wrong++
			if _, e := sour.Worst(l, other); e != api.ErrRule {
				t.Fatalf("Worst of the order %v on the track %v: %d", other, track, e)
			}
		}
	})
	if wrong < 200 {
		t.Errorf("only %d other orders", wrong)
	}
}

// TestP4_12_Numbers: if loads have other numbers, Run says the same, and the worst of Best remains (G5).
func TestP4_12_Numbers(t *testing.T) {
	manyLines(15, sour.MaxLoads, func(r *rand.Rand, l sour.Line) {
		numbers := r.Perm(len(l.Loads))
		other := renumbered(l, numbers)
		order := anyOrder(r, l)
		var otherOrder []int
		for _, load := range order {
			otherOrder = append(otherOrder, numbers[load])
		}
		a, b := run(t, l, order), run(t, other, otherOrder)
		for i, n := range numbers {
			if a.ends[i] != b.ends[n] || a.sours[i] != b.sours[n] {
				t.Fatalf("Run of %v = %v, with the numbers %v: %v", l, a, numbers, b)
			}
		}
		_, worst := best(t, l)
		if _, w := best(t, other); w != worst || a.worst != b.worst {
			t.Fatalf("Best of %v: %d, with the numbers %v: %d; Worst: %d and %d", l, worst, numbers, w, a.worst, b.worst)
		}
	})
}
