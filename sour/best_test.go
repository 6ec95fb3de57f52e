package sour_test

import (
	"math/rand/v2"
	"slices"
	"testing"

	"zafra/api"
	"zafra/sour"
)

// best returns the best order with its worst.
func best(t *testing.T, l sour.Line) ([]int, int) {
	t.Helper()
	order, worst, e := sour.Best(l)
	if e != api.OK || len(order) != len(l.Loads) {
		t.Fatalf("Best of %v = %v %d %d", l, order, worst, e)
	}
	return order, worst
}

// due returns loads that all take 10 minutes and are fresh until some minutes; and how sour they are from then on.
func due(tracks [][]int, minutesAndSour ...int) sour.Line {
	l := sour.Line{Tracks: tracks}
	for s := range slices.Chunk(minutesAndSour, 2) {
		l.Loads = append(l.Loads, sour.Load{Kind: len(l.Kinds), Crush: point(10)})
		l.Kinds = append(l.Kinds, kind(s[0], s[1]))
	}
	if tracks == nil {
		return single(l)
	}
	return l
}

func TestP4_3_Best(t *testing.T) {
	fresh := changed(func(l *sour.Line) { l.Kinds = make([]sour.Kind, 2) })
	onTracks := func(tracks ...[]int) sour.Line { return changed(func(l *sour.Line) { l.Tracks = tracks }) }
	for i, x := range []struct {
		line  sour.Line
		order []int
		worst int
	}{
		{sour.Line{}, nil, 0}, {sour.Line{Kinds: make([]sour.Kind, 6), Start: point(7)}, nil, 0},
		{chapterLine(), list(0, 2, 1), 50}, {single(chapterLine()), list(2, 0, 1), 20},
		// Of orders that are as good, the first one.
		{fresh, list(0, 1, 2), 0}, {single(fresh), list(0, 1, 2), 0},
		{changed(func(l *sour.Line) { l.Kinds, l.Tracks = make([]sour.Kind, 2), [][]int{{2, 0}, {1}} }), list(1, 2, 0), 0},
		// One track, one order.
		{onTracks(list(2, 1, 0)), list(2, 1, 0), 20}, {onTracks(list(1, 0, 2)), list(1, 0, 2), 90},
		{onTracks(list(0, 1, 2)), list(0, 1, 2), 90},
		// Each in time, in one order only.
		{due(nil, 11, 5, 21, 7, 31, 9), list(0, 1, 2), 0}, {due(nil, 31, 5, 21, 7, 11, 9), list(2, 1, 0), 0},
		{due(nil, 21, 5, 31, 7, 11, 9), list(2, 0, 1), 0},
		// Not all of them in time.
		{due(nil, 10, 5, 10, 7, 10, 9), list(0, 1, 2), 9}, {due(nil, 15, 5, 15, 7, 15, 9), list(2, 0, 1), 7},
		{due(nil, 15, 9, 15, 7, 15, 5), list(0, 1, 2), 7}, {due(nil, 15, 7, 15, 7, 15, 7), list(0, 1, 2), 7},
		// Fresh cane goes first for what stands behind it.
		{due([][]int{{0, 1}, {2}}, 100, 5, 21, 7, 31, 9), list(0, 1, 2), 0},
		{due([][]int{{0, 1}, {2}}, 100, 5, 11, 7, 15, 9), list(2, 0, 1), 7},
		{due([][]int{{1, 2}, {0}}, 31, 5, 100, 7, 21, 9), list(1, 2, 0), 0},
		// A load that cannot be in time waits, even if it could be less sour.
		{due(nil, 5, 9, 21, 3, 31, 4), list(0, 1, 2), 9}, {due(nil, 31, 3, 21, 4, 5, 9), list(0, 1, 2), 9},
	} {
		order, worst := best(t, x.line)
		if !slices.Equal(order, x.order) || worst != x.worst {
			t.Errorf("Best %d = %v %d, want %v %d", i, order, worst, x.order, x.worst)
		}
	}
}

// TestP4_3_EachOrder holds Best against all orders (P4.3, P4.8).
func TestP4_3_EachOrder(t *testing.T) {
	notFirst, notOne := 0, 0
	manyLines(3, 6, func(r *rand.Rand, l sour.Line) {
		var want []int
		least, good := highest, 0
		for order := range orders(l) {
			switch worst := worstOf(l, order, 0); {
			case worst < least:
				want, least, good = slices.Clone(order), worst, 1
			case worst == least:
				good++
			}
		}
		order, worst := best(t, l)
		if !slices.Equal(order, want) || worst != least {
			t.Fatalf("Best of %v = %v %d, want %v %d", l, order, worst, want, least)
		}
		if !slices.IsSorted(order) {
			notFirst++
		}
		if good > 1 {
			notOne++
		}
	})
	if notFirst < 100 || notOne < 100 {
		t.Errorf("%d best orders do not ascend, and %d are the first of several", notFirst, notOne)
	}
}

// TestP4_3_ManyLoads has more loads, and holds Best against an order that is built load by load.
func TestP4_3_ManyLoads(t *testing.T) {
	sourOnes := 0
	manyLines(33, sour.MaxLoads, func(r *rand.Rand, l sour.Line) {
		want, least := firstBest(l)
		order, worst := best(t, l)
		if !slices.Equal(order, want) || worst != least {
			t.Fatalf("Best of %v = %v %d, want %v %d", l, order, worst, want, least)
		}
		if own, e := sour.Worst(l, order); own != worst || e != api.OK {
			t.Fatalf("Best of %v = %v %d, its Worst: %d %d", l, order, worst, own, e)
		}
		if worst > 0 && len(order) > 6 {
			sourOnes++
		}
	})
	if sourOnes < 100 {
		t.Errorf("only %d long orders are sour", sourOnes)
	}
}

// TestP4_3_Full: ten loads on ten tracks, of which the last ones have to be first.
func TestP4_3_Full(t *testing.T) {
	var l sour.Line
	l.Kinds = []sour.Kind{kind(110, 1, 200, 2)}
	for load := range sour.MaxLoads {
		l.Loads = append(l.Loads, sour.Load{Age: point(10 * load), Crush: point(10)})
	}
	if order, worst := best(t, single(l)); !slices.Equal(order, list(9, 8, 7, 6, 5, 4, 3, 2, 1, 0)) || worst != 0 {
		t.Errorf("Best = %v %d", order, worst)
	}
	want, least := firstBest(fullLine())
	if order, worst := best(t, fullLine()); !slices.Equal(order, want) || worst != least {
		t.Errorf("Best of the full line = %v %d, want %v %d", order, worst, want, least)
	}
}
