package sour_test

import (
	"math/rand/v2"
	"slices"
	"testing"

	"zafra/api"
	"zafra/sour"
)

// turn is what Run and Worst say.
type turn struct {
	ends, sours []api.Span
	worst       int
}

func run(t *testing.T, l sour.Line, order []int) turn {
	t.Helper()
	ends, sours, e := sour.Run(l, order)
	worst, f := sour.Worst(l, order)
	if e != api.OK || f != api.OK || len(ends) != len(l.Loads) || len(sours) != len(l.Loads) {
		t.Fatalf("%v, order %v: Run = %v %v %d, Worst = %d %d", l, order, ends, sours, e, worst, f)
	}
	return turn{ends, sours, worst}
}

func (x turn) equals(y turn) bool {
	return slices.Equal(x.ends, y.ends) && slices.Equal(x.sours, y.sours) && x.worst == y.worst
}

func spans(ends ...int) []api.Span {
	var l []api.Span
	for s := range slices.Chunk(ends, 2) {
		l = append(l, span(s[0], s[1]))
	}
	return l
}

func TestP4_2_Run(t *testing.T) {
	l := chapterLine()
	fresh := changed(func(l *sour.Line) { l.Kinds = make([]sour.Kind, 2) })
	edge := func(after int) sour.Line {
		return changed(func(l *sour.Line) { l.Kinds[1] = kind(after, 7, after+1, 8) })
	}
	for i, x := range []struct {
		line  sour.Line
		order []int
		want  turn
	}{
		{sour.Line{}, nil, turn{}},
		{sour.Line{Start: span(3, 9)}, list(), turn{}},
		{l, list(0, 2, 1), turn{spans(100, 230, 400, 530, 200, 330), spans(10, 10, 10, 10, 20, 50), 50}},
		{l, list(0, 1, 2), turn{spans(100, 230, 300, 430, 400, 530), spans(10, 10, 10, 10, 50, 90), 90}},
		{l, list(1, 0, 2), turn{spans(300, 430, 200, 230, 400, 530), spans(20, 20, 10, 10, 50, 90), 90}},
		{single(l), list(2, 1, 0), turn{spans(400, 530, 300, 330, 100, 130), spans(20, 20, 10, 10, 20, 20), 20}},
		{fresh, list(0, 2, 1), turn{spans(100, 230, 400, 530, 200, 330), spans(0, 0, 0, 0, 0, 0), 0}},
		// The load 1 is cut for 1100 to 1330 minutes when it is crushed.
		{edge(1331), list(0, 2, 1), turn{spans(100, 230, 400, 530, 200, 330), spans(10, 10, 0, 0, 20, 50), 50}},
		{edge(1330), list(0, 2, 1), turn{spans(100, 230, 400, 530, 200, 330), spans(10, 10, 0, 7, 20, 50), 50}},
		{edge(1329), list(0, 2, 1), turn{spans(100, 230, 400, 530, 200, 330), spans(10, 10, 0, 8, 20, 50), 50}},
		{edge(1101), list(0, 2, 1), turn{spans(100, 230, 400, 530, 200, 330), spans(10, 10, 0, 8, 20, 50), 50}},
		{edge(1100), list(0, 2, 1), turn{spans(100, 230, 400, 530, 200, 330), spans(10, 10, 7, 8, 20, 50), 50}},
		{edge(1099), list(0, 2, 1), turn{spans(100, 230, 400, 530, 200, 330), spans(10, 10, 8, 8, 20, 50), 50}},
	} {
		if got := run(t, x.line, x.order); !got.equals(x.want) {
			t.Errorf("Run %d = %v, want %v", i, got, x.want)
		}
	}
}

// TestP4_2_Full has the longest ends.
func TestP4_2_Full(t *testing.T) {
	got := run(t, fullLine(), list(0, 1, 2, 3, 4, 5, 6, 7, 8, 9))
	if got.worst != sour.MaxSour || got.ends[9] != span(10, 200000) || got.sours[9] != span(0, sour.MaxSour-3) {
		t.Errorf("Run = %v", got)
	}
}

func TestP4_2_Errors(t *testing.T) {
	for i, x := range []struct {
		order []int
		want  api.Errno
	}{
		{nil, api.ErrShape}, {list(0, 2), api.ErrShape}, {list(0, 2, 1, 1), api.ErrShape}, {list(9, 9), api.ErrShape},
		{list(2, 2, 2, 2), api.ErrShape},
		{list(0, 2, 3), api.ErrNone}, {list(-1, 0, 2), api.ErrNone}, {list(0, highest, 1), api.ErrNone},
		{list(0, lowest, 1), api.ErrNone}, {list(64, 0, 1), api.ErrNone},
		{list(0, 0, 2), api.ErrTwice}, {list(1, 0, 1), api.ErrTwice}, {list(0, 2, 2), api.ErrTwice},
		{list(2, 0, 1), api.ErrRule}, {list(1, 2, 0), api.ErrRule}, {list(2, 1, 0), api.ErrRule},
		// The first number decides.
		{list(2, 9, 9), api.ErrRule}, {list(9, 2, 2), api.ErrNone}, {list(1, 1, 9), api.ErrTwice},
		{list(2, 2, 0), api.ErrRule}, {list(0, 0, 9), api.ErrTwice},
	} {
		ends, sours, e := sour.Run(chapterLine(), x.order)
		worst, f := sour.Worst(chapterLine(), x.order)
		if e != x.want || f != x.want || len(ends) != 0 || len(sours) != 0 || worst != 0 {
			t.Errorf("Run %d = %v %v %d, Worst %d %d, want %d", i, ends, sours, e, worst, f, x.want)
		}
	}
	if _, _, e := sour.Run(sour.Line{}, list(0)); e != api.ErrShape {
		t.Errorf("Run of an order of no loads = %d", e)
	}
}

// orderError is what the chapter says of an order with as many numbers as there are loads.
func orderError(l sour.Line, order []int) api.Errno {
	for place, load := range order {
		switch {
		case load < 0 || load >= len(l.Loads):
			return api.ErrNone
		case slices.Contains(order[:place], load):
			return api.ErrTwice
		case !canFollow(l, order[:place], load):
			return api.ErrRule
		}
	}
	return api.OK
}

// TestP4_2_AnyOrder has lists of numbers that are often no order.
func TestP4_2_AnyOrder(t *testing.T) {
	found := map[api.Errno]int{}
	manyLines(2, sour.MaxLoads, func(r *rand.Rand, l sour.Line) {
		order := anyOrder(r, l)
		for range min(len(order), r.IntN(3)) {
			i, j := r.IntN(len(order)), r.IntN(len(order))
			switch r.IntN(4) {
			case 0:
				order[i] = r.IntN(len(order)+2) - 1
			default:
				order[i], order[j] = order[j], order[i]
			}
		}
		want := orderError(l, order)
		found[want]++
		_, _, e := sour.Run(l, order)
		if _, f := sour.Worst(l, order); e != want || f != want {
			t.Fatalf("order %v of %v: Run %d, Worst %d, want %d", order, l.Tracks, e, f, want)
		}
	})
	if min(found[api.OK], found[api.ErrNone], found[api.ErrTwice], found[api.ErrRule]) < 25 {
		t.Errorf("errors: %v", found)
	}
}

// spansOfTruths returns what Run and Worst have to say, from all truths.
func spansOfTruths(l sour.Line, order []int) turn {
	none := span(highest, lowest)
	want := turn{slices.Repeat([]api.Span{none}, len(order)), slices.Repeat([]api.Span{none}, len(order)), 0}
	for truth := range truths(l) {
		ends, sours := crushIn(l, order, truth)
		for load := range order {
			want.ends[load] = wider(want.ends[load], ends[load])
			want.sours[load] = wider(want.sours[load], sours[load])
		}
		want.worst = max(want.worst, greatest(sours))
	}
	return want
}

func wider(s api.Span, n int) api.Span { return span(min(s.Lo, n), max(s.Hi, n)) }

// TestP4_7_EachTruth holds Run and Worst against all truths: they say no more and no less (P4.2, P4.6, P4.7).
func TestP4_7_EachTruth(t *testing.T) {
	r := rand.New(rand.NewPCG(4, 7))
	wide := 0
	for range 600 {
		l := anyLine(r, r.IntN(5), fewTruths)
		order := anyOrder(r, l)
		want := spansOfTruths(l, order)
		if got := run(t, l, order); !got.equals(want) {
			t.Fatalf("%v, order %v: Run = %v, want %v", l, order, got, want)
		}
		for _, s := range want.sours {
			if s.Lo < s.Hi {
				wide++
			}
		}
	}
	if wide < 100 {
		t.Errorf("only %d spans of sourness have two numbers", wide)
	}
}

// TestP4_7_Ends holds Run and Worst against the truths in which all is as early, and as late, as it can be.
func TestP4_7_Ends(t *testing.T) {
	manyLines(71, sour.MaxLoads, func(r *rand.Rand, l sour.Line) {
		order := anyOrder(r, l)
		early := truth{start: l.Start.Lo}
		for _, load := range l.Loads {
			early.ages, early.crushs = append(early.ages, load.Age.Lo), append(early.crushs, load.Crush.Lo)
		}
		los, leasts := crushIn(l, order, early)
		his, mosts := crushIn(l, order, latest(l))
		want := turn{worst: greatest(mosts)}
		for i := range los {
			want.ends = append(want.ends, span(los[i], his[i]))
			want.sours = append(want.sours, span(leasts[i], mosts[i]))
		}
		if got := run(t, l, order); !got.equals(want) {
			t.Fatalf("%v, order %v: Run = %v, want %v", l, order, got, want)
		}
	})
}
