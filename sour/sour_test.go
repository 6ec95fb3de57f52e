package sour_test

import (
	"testing"

	"zafra/api"
	"zafra/sour"
)

func TestP4_1_CheckOK(t *testing.T) {
	for i, l := range []sour.Line{
		{}, chapterLine(), single(chapterLine()), fullLine(),
		{Kinds: make([]sour.Kind, sour.MaxKinds)},
		{Start: span(0, sour.MaxMinutes)}, {Start: point(sour.MaxMinutes)},
		{Kinds: []sour.Kind{kind(0, 1, 1, 2, 2, 3, 3, 4, 4, 5, 5, 6, 6, 7, 7, 8)}},
		{Kinds: []sour.Kind{kind(0, 1, sour.MaxMinutes, sour.MaxSour), nil, kind(sour.MaxMinutes, 1), kind(0, sour.MaxSour)}},
		changed(func(l *sour.Line) { l.Kinds = make([]sour.Kind, 2) }),
		changed(func(l *sour.Line) {
			l.Loads[0].Age, l.Loads[0].Crush = span(0, sour.MaxMinutes), span(1, sour.MaxCrush)
		}),
		changed(func(l *sour.Line) { l.Loads[0].Age, l.Loads[0].Crush = point(0), point(1) }),
		changed(func(l *sour.Line) {
			l.Loads[0].Age, l.Loads[0].Crush = point(sour.MaxMinutes), point(sour.MaxCrush)
		}),
		changed(func(l *sour.Line) { l.Tracks = [][]int{{2, 1, 0}} }),
		changed(func(l *sour.Line) { l.Tracks = [][]int{{1}, {2, 0}} }),
	} {
		if e := sour.Check(l); e != api.OK {
			t.Errorf("Check of line %d = %d", i, e)
		}
	}
}

// badLine is L with a change, and with the error that Check has for it.
type badLine struct {
	change func(l *sour.Line)
	want   api.Errno
}

func badKinds() []badLine {
	kinds := func(want api.Errno, kinds ...sour.Kind) badLine {
		return badLine{func(l *sour.Line) { l.Kinds = kinds }, want}
	}
	long := make(sour.Kind, sour.MaxSteps+1)
	good := kind(0, 10)
	return []badLine{
		kinds(api.ErrMany, make([]sour.Kind, sour.MaxKinds+1)...),
		kinds(api.ErrMany, good, long),
		kinds(api.ErrRange, good, kind(-1, 1)), kinds(api.ErrRange, good, kind(lowest, 1)),
		kinds(api.ErrRange, good, kind(sour.MaxMinutes+1, 1)), kinds(api.ErrRange, good, kind(highest, 1)),
		kinds(api.ErrRange, good, kind(0, 0)), kinds(api.ErrRange, good, kind(0, lowest)),
		kinds(api.ErrRange, good, kind(0, sour.MaxSour+1)), kinds(api.ErrRange, good, kind(0, highest)),
		kinds(api.ErrRange, good, kind(0, 1, 1, 2, 2, sour.MaxSour+1)),
		kinds(api.ErrOrder, good, kind(5, 1, 5, 2)), kinds(api.ErrOrder, good, kind(5, 1, 4, 2)),
		kinds(api.ErrOrder, good, kind(5, 2, 6, 2)), kinds(api.ErrOrder, good, kind(5, 2, 6, 1)),
		kinds(api.ErrOrder, good, kind(5, 2, 6, 3, 6, 4)), kinds(api.ErrOrder, good, kind(5, 2, 6, 4, 7, 3)),
		// The first kind, the first step, and then the error that is named first.
		kinds(api.ErrRange, append([]sour.Kind{kind(-1, 1)}, make([]sour.Kind, sour.MaxKinds-1)...)...),
		kinds(api.ErrMany, append([]sour.Kind{kind(-1, 1)}, make([]sour.Kind, sour.MaxKinds)...)...),
		kinds(api.ErrRange, kind(0, 0), long), kinds(api.ErrMany, long, kind(0, 0)),
		kinds(api.ErrOrder, kind(5, 1, 5, 2), long, kind(0, 0)),
		kinds(api.ErrOrder, kind(5, 1, 5, 2, -1, 0)), kinds(api.ErrRange, kind(5, 1, -1, 2, 3, 3)),
		kinds(api.ErrRange, kind(5, 2, 4, 0)), kinds(api.ErrRange, kind(5, 2, sour.MaxMinutes+1, 2)),
	}
}

func badLoads() []badLine {
	load := func(want api.Errno, kind int, age, crush api.Span) badLine {
		return badLine{func(l *sour.Line) { l.Loads[1] = sour.Load{Kind: kind, Age: age, Crush: crush} }, want}
	}
	age := func(age api.Span) badLine { return load(api.ErrRange, 0, age, point(1)) }
	crush := func(crush api.Span) badLine { return load(api.ErrRange, 0, point(0), crush) }
	return []badLine{
		{func(l *sour.Line) { l.Loads = make([]sour.Load, sour.MaxLoads+1) }, api.ErrMany},
		load(api.ErrKind, 2, point(0), point(1)), load(api.ErrKind, -1, point(0), point(1)),
		load(api.ErrKind, highest, point(0), point(1)), load(api.ErrKind, lowest, point(0), point(1)),
		{func(l *sour.Line) { l.Kinds = nil }, api.ErrKind},
		age(span(-1, 5)), age(span(0, sour.MaxMinutes+1)), age(span(6, 5)), age(span(lowest, highest)),
		age(span(highest, lowest)), age(point(-1)), age(point(sour.MaxMinutes + 1)),
		crush(span(0, 5)), crush(span(1, sour.MaxCrush+1)), crush(span(6, 5)), crush(span(lowest, highest)),
		crush(span(highest, lowest)), crush(point(0)), crush(point(sour.MaxCrush + 1)), crush(api.Span{}),
		// The first load, and then the error that is named first.
		load(api.ErrKind, 2, span(6, 5), point(0)),
		{func(l *sour.Line) { l.Loads[0].Crush, l.Loads[1].Kind = point(0), 2 }, api.ErrRange},
		{func(l *sour.Line) { l.Loads[1].Kind, l.Loads[2].Age = 2, point(-1) }, api.ErrKind},
		{func(l *sour.Line) { l.Loads, l.Kinds[1] = make([]sour.Load, 11), kind(0, 0) }, api.ErrRange},
		{func(l *sour.Line) { l.Loads, l.Kinds = make([]sour.Load, 11), nil }, api.ErrMany},
	}
}

func badTracks() []badLine {
	tracks := func(want api.Errno, tracks ...[]int) badLine {
		return badLine{func(l *sour.Line) { l.Tracks = tracks }, want}
	}
	return []badLine{
		tracks(api.ErrEmpty, nil), tracks(api.ErrEmpty, list(0, 2), list(1), list()),
		tracks(api.ErrNone, list(0, 1, 2, 3)), tracks(api.ErrNone, list(0, 1, 2), list(-1)),
		tracks(api.ErrNone, list(highest)), tracks(api.ErrNone, list(lowest)), tracks(api.ErrNone, list(64)),
		tracks(api.ErrTwice, list(0, 2, 0), list(1)), tracks(api.ErrTwice, list(0, 2), list(1, 2)),
		tracks(api.ErrTwice, list(0, 1, 2), list(0)),
		tracks(api.ErrShape), tracks(api.ErrShape, list(0), list(1)), tracks(api.ErrShape, list(2, 1)),
		tracks(api.ErrShape, list(0, 2)),
		// The first track, and then the first number, decides; a load that is in no track comes last.
		tracks(api.ErrEmpty, list(0), nil, list(9)), tracks(api.ErrNone, list(0), list(9), nil),
		tracks(api.ErrTwice, list(0, 0, 9), nil), tracks(api.ErrNone, list(0, 9, 0)),
		{func(l *sour.Line) { l.Loads = nil }, api.ErrNone},
		{func(l *sour.Line) { l.Loads[2].Kind, l.Tracks = 7, [][]int{nil} }, api.ErrKind},
		{func(l *sour.Line) { l.Start = point(-1); l.Tracks = [][]int{{0}, {1}} }, api.ErrShape},
		{func(l *sour.Line) { l.Start = point(-1); l.Tracks = [][]int{{0}, {1}, {2}, nil} }, api.ErrEmpty},
	}
}

func badStarts() []badLine {
	var bad []badLine
	for _, s := range []api.Span{
		span(-1, 5), span(0, sour.MaxMinutes+1), span(6, 5), span(lowest, highest), span(highest, lowest),
		point(-1), point(sour.MaxMinutes + 1), point(lowest), point(highest),
	} {
		bad = append(bad, badLine{func(l *sour.Line) { l.Start = s }, api.ErrRange})
	}
	return append(bad, badLine{func(l *sour.Line) { *l = sour.Line{Start: point(-1)} }, api.ErrRange})
}

// eachBadLine calls a test with each line that Check has an error for.
func eachBadLine(test func(l sour.Line, want api.Errno)) {
	for _, bad := range [][]badLine{badKinds(), badLoads(), badTracks(), badStarts()} {
		for _, x := range bad {
			test(changed(x.change), x.want)
		}
	}
}

func TestP4_1_CheckErrors(t *testing.T) {
	eachBadLine(func(l sour.Line, want api.Errno) {
		if e := sour.Check(l); e != want {
			t.Errorf("Check of %v = %d, want %d", l, e, want)
		}
	})
}

// TestP4_1_FirstError: whatever else is wrong, each function returns the error of Check.
func TestP4_1_FirstError(t *testing.T) {
	eachBadLine(func(l sour.Line, want api.Errno) {
		for _, c := range []call{
			{line: l}, {line: l, order: list(0, 2, 1), set: list(2), sour: 1, limit: 90},
			{line: l, order: list(-1, 9), set: list(-1), sour: -1, limit: -1},
		} {
			for i, got := range c.results() {
				e, is := got.(api.Errno)
				if is && e != want || !is && !isNothing(got) {
					t.Errorf("%v: result %d = %v, want the error %d", c, i, got, want)
				}
			}
		}
	})
}

// isNothing returns whether a result is 0 or an empty list.
func isNothing(result any) bool {
	switch x := result.(type) {
	case int:
		return x == 0
	case []int:
		return len(x) == 0
	case []api.Span:
		return len(x) == 0
	}
	return false
}
