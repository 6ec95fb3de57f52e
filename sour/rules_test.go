package sour_test

import (
	"math/rand/v2"
	"reflect"
	"slices"
	"testing"

	"zafra/api"
	"zafra/sour"
)

// call is the arguments of all functions.
type call struct {
	line        sour.Line
	order, set  []int
	sour, limit int
}

// results calls each function, and returns all results.
func (c call) results() []any {
	ends, sours, e1 := sour.Run(c.line, c.order)
	worst, e2 := sour.Worst(c.line, c.order)
	order, least, e3 := sour.Best(c.line)
	proof, e4 := sour.Prove(c.line)
	delay, e5 := sour.Delay(c.line, c.order, c.limit)
	return []any{sour.Check(c.line), ends, sours, e1, worst, e2, order, least, e3, proof, e4,
		sour.Verify(c.line, c.sour, c.set), delay, e5}
}

// clone returns the same arguments in other memory.
func (c call) clone() call {
	c.line, c.order, c.set = cloneLine(c.line), slices.Clone(c.order), slices.Clone(c.set)
	return c
}

// oddNumber returns numbers that are often not as stated, or just so.
func oddNumber(r *rand.Rand) int {
	odd := []int{lowest, highest, -2, -1, 0, 1, 2, 9, 10, 16, 63, 64, 10000, 10001, 100000, 100001, 1000000, 1000001}
	return odd[r.IntN(len(odd))]
}

func oddSpan(r *rand.Rand) api.Span { return span(oddNumber(r), oddNumber(r)) }

// changeOne puts another number into a list, if it has one.
func changeOne(r *rand.Rand, l []int) {
	if len(l) > 0 {
		l[r.IntN(len(l))] = oddNumber(r)
	}
}

// oddCall returns arguments that may have any error.
func oddCall(r *rand.Rand) call {
	c := call{line: anyLine(r, r.IntN(sour.MaxLoads+1), smallLines), sour: 1 + r.IntN(20), limit: r.IntN(20)}
	c.order, c.set = anyOrder(r, c.line), ascending(r, 1+r.IntN(5), 0, len(c.line.Loads))
	switch r.IntN(13) {
	case 0:
		c.sour, c.limit = oddNumber(r), oddNumber(r)
	case 1:
		changeOne(r, c.order)
		changeOne(r, c.set)
	case 2:
		c.order, c.set = append(c.order, oddNumber(r)), append(c.set, oddNumber(r))
	case 3:
		c.line.Start = oddSpan(r)
	case 4:
		if len(c.line.Loads) > 0 {
			c.line.Loads[0] = sour.Load{Kind: oddNumber(r), Age: oddSpan(r), Crush: oddSpan(r)}
		}
	case 5:
		c.line.Loads = append(c.line.Loads, make([]sour.Load, r.IntN(9))...)
	case 6:
		c.line.Kinds = append(c.line.Kinds, kind(oddNumber(r), oddNumber(r), oddNumber(r), oddNumber(r)))
	case 7:
		c.line.Kinds = append(c.line.Kinds, make([]sour.Kind, r.IntN(9))...)
	case 8:
		c.line.Kinds = append(c.line.Kinds, make(sour.Kind, r.IntN(12)))
	case 9:
		if len(c.line.Tracks) > 0 {
			changeOne(r, c.line.Tracks[0])
		}
	case 10:
		c.line.Tracks = append(c.line.Tracks, make([]int, r.IntN(3)))
	case 11:
		c.line.Tracks = c.line.Tracks[:r.IntN(len(c.line.Tracks)+1)]
	}
	return c
}

// TestP4_Ends: no function panics, arguments are not changed, and the same arguments have the same results (P1, R4).
func TestP4_Ends(t *testing.T) {
	r := rand.New(rand.NewPCG(4, 20))
	found := map[any]int{}
	for range 5000 {
		c := oddCall(r)
		before := c.clone()
		first := c.results()
		found[first[0]]++
		if !reflect.DeepEqual(c, before) {
			t.Fatalf("arguments were changed from %v to %v", before, c)
		}
		if second := c.clone().results(); !reflect.DeepEqual(first, second) {
			t.Fatalf("%v and then %v", first, second)
		}
	}
	if len(found) != 9 {
		t.Errorf("the results of Check were %v", found)
	}
}

// TestP4_Room: what lies behind the end of a list is not written to (R4).
func TestP4_Room(t *testing.T) {
	long := func() call {
		l := chapterLine()
		l.Kinds = append(l.Kinds, kind(7, 7), nil)
		l.Kinds[0] = append(l.Kinds[0], sour.Step{After: 7, Sour: 7})
		l.Loads = append(l.Loads, sour.Load{Kind: 7})
		l.Tracks = append(l.Tracks, list(7), nil)
		l.Tracks[1] = append(l.Tracks[1], 7, 7)
		return call{line: l, order: list(0, 2, 1, 7), set: list(0, 2, 7), sour: 50, limit: 50}
	}
	all := long()
	c := all
	c.line.Kinds, c.line.Loads, c.line.Tracks = all.line.Kinds[:2], all.line.Loads[:3], all.line.Tracks[:2]
	c.order, c.set = c.order[:3], c.set[:2]
	kept, track := all.line.Kinds[0], all.line.Tracks[1]
	c.line.Kinds[0], c.line.Tracks[1] = kept[:4], track[:1]
	if e := sour.Check(c.line); e != api.OK {
		t.Fatalf("Check = %d", e)
	}
	c.results()
	all.line.Kinds[0], all.line.Tracks[1] = kept, track
	if !reflect.DeepEqual(all, long()) {
		t.Errorf("arguments are now %v", all)
	}
}

// TestR4_Results: a result that is changed changes no argument, no other result, and no later one.
func TestR4_Results(t *testing.T) {
	c := call{line: chapterLine(), order: list(0, 2, 1), set: list(0, 2), sour: 50, limit: 50}
	c.line.Tracks = [][]int{{0, 2, 1}}
	before, want := c.clone(), c.clone().results()
	ends, sours, _ := sour.Run(c.line, c.order)
	order, _, _ := sour.Best(c.line)
	set, _ := sour.Prove(c.line)
	for i := range ends {
		ends[i] = span(77, 77)
	}
	if slices.Contains(sours, span(77, 77)) {
		t.Errorf("Run returns the same memory twice")
	}
	sours[0], order[0], set[0] = span(77, 77), 77, 77
	if !reflect.DeepEqual(c, before) {
		t.Errorf("arguments were changed to %v", c)
	}
	if got := c.results(); !reflect.DeepEqual(got, want) {
		t.Errorf("%v, want %v", got, want)
	}
}

// TestR3_Nil: an empty list and a nil one are the same.
func TestR3_Nil(t *testing.T) {
	full := sour.Line{Kinds: []sour.Kind{}, Loads: []sour.Load{}, Tracks: [][]int{}}
	fresh := sour.Line{Kinds: make([]sour.Kind, 1), Loads: []sour.Load{{Crush: point(1)}}, Tracks: [][]int{{0}}}
	other := cloneLine(fresh)
	other.Kinds[0] = sour.Kind{}
	noTrack, emptyTrack := cloneLine(fresh), cloneLine(fresh)
	noTrack.Tracks, emptyTrack.Tracks = [][]int{{0}, nil}, [][]int{{0}, {}}
	for i, x := range [][2]call{
		{{}, {line: full, order: list(), set: list()}},
		{{sour: 1}, {line: full, order: list(), set: list(), sour: 1}},
		{{line: fresh, sour: 1}, {line: fresh, order: list(), set: list(), sour: 1}},
		{{line: fresh, order: list(0), set: list(0), sour: 1}, {line: other, order: list(0), set: list(0), sour: 1}},
		{{line: noTrack}, {line: emptyTrack, order: list(), set: list()}},
	} {
		a, b := x[0].results(), x[1].results()
		for j := range a {
			if !sameResult(a[j], b[j]) {
				t.Errorf("%d, result %d: %v and %v", i, j, a[j], b[j])
			}
		}
	}
}

// sameResult compares results, where an empty list is the same as a nil one.
func sameResult(a, b any) bool {
	if l, is := a.([]int); is {
		return slices.Equal(l, b.([]int))
	}
	if l, is := a.([]api.Span); is {
		return slices.Equal(l, b.([]api.Span))
	}
	return a == b
}

// TestExamples is the chapter's table.
func TestExamples(t *testing.T) {
	l, m := chapterLine(), single(chapterLine())
	want := turn{spans(100, 230, 400, 530, 200, 330), spans(10, 10, 10, 10, 20, 50), 50}
	if got := run(t, l, list(0, 2, 1)); !got.equals(want) {
		t.Errorf("Run = %v", got)
	}
	if got := run(t, l, list(0, 1, 2)); got.worst != 90 {
		t.Errorf("Worst = %d", got.worst)
	}
	if worst, e := sour.Worst(l, list(2, 0, 1)); worst != 0 || e != api.ErrRule {
		t.Errorf("Worst = %d %d", worst, e)
	}
	if order, worst := best(t, l); !slices.Equal(order, list(0, 2, 1)) || worst != 50 {
		t.Errorf("Best of L = %v %d", order, worst)
	}
	if order, worst := best(t, m); !slices.Equal(order, list(2, 0, 1)) || worst != 20 {
		t.Errorf("Best of M = %v %d", order, worst)
	}
	if set, e := sour.Prove(l); shown(l, set) != 50 || e != api.OK {
		t.Errorf("Prove of L = %v %d", set, e)
	}
	if set, e := sour.Prove(m); shown(m, set) != 20 || e != api.OK {
		t.Errorf("Prove of M = %v %d", set, e)
	}
	for i, x := range []struct {
		sour int
		set  []int
		want api.Errno
	}{
		{50, list(0, 2), api.OK}, {51, list(0, 2), api.ErrProof}, {10, list(0, 1, 2), api.OK}, {50, list(2), api.ErrProof},
	} {
		if e := sour.Verify(l, x.sour, x.set); e != x.want {
			t.Errorf("Verify %d = %d, want %d", i, e, x.want)
		}
	}
	for i, x := range []struct {
		limit, want int
		e           api.Errno
	}{{50, 69, api.OK}, {90, api.Never, api.OK}, {49, 0, api.ErrOver}} {
		if d, e := sour.Delay(l, list(0, 2, 1), x.limit); d != x.want || e != x.e {
			t.Errorf("Delay %d = %d %d, want %d %d", i, d, e, x.want, x.e)
		}
	}
}

func TestLimits(t *testing.T) {
	limits := list(sour.MaxMinutes, sour.MaxSour, sour.MaxSteps, sour.MaxKinds, sour.MaxLoads, sour.MaxCrush)
	if !slices.Equal(limits, list(100000, 1000000, 8, 6, 10, 10000)) {
		t.Errorf("limits are %v", limits)
	}
}
