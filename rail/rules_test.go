package rail_test

import (
	"math/rand/v2"
	"reflect"
	"slices"
	"testing"

	"zafra/api"
	"zafra/rail"
)

// call is the arguments of all functions.
type call struct {
	line       rail.Line
	trains     []rail.Train
	train      int
	plan, asks []int
}

// results calls each function, and returns all results.
func (c call) results() []any {
	possible, e1 := rail.Possible(c.line, c.trains)
	after, e2 := rail.Move(c.line, c.trains, c.train)
	safe, e3 := rail.Safe(c.line, c.trains)
	stuck, e4 := rail.Stuck(c.line, c.trains)
	plan, e5 := rail.Plan(c.line, c.trains)
	at, e6 := rail.Verify(c.line, c.trains, c.plan)
	good, e7 := rail.Good(c.line, c.trains)
	let, end, e8 := rail.Dispatch(c.line, c.trains, c.asks)
	return []any{rail.Check(c.line, c.trains), possible, e1, after, e2, safe, e3, stuck, e4, plan, e5, at, e6, good, e7,
		let, end, e8}
}

// clone returns the same arguments in other memory.
func (c call) clone() call {
	c.line, c.trains = slices.Clone(c.line), slices.Clone(c.trains)
	c.plan, c.asks = slices.Clone(c.plan), slices.Clone(c.asks)
	return c
}

// oddNumber returns numbers that are often not as stated, or just so.
func oddNumber(r *rand.Rand) int {
	odd := []int{lowest, highest, -2, -1, 0, 1, 2, 3, 4, 5, 6, 7, 8, 9}
	return odd[r.IntN(len(odd))]
}

// oddCall returns arguments that may have any error.
func oddCall(r *rand.Rand) call {
	l := anyLine(r)
	c := call{line: l, trains: anyState(r, l, rail.MaxTrains), train: r.IntN(rail.MaxTrains)}
	c.plan, _ = rail.Plan(c.line, c.trains)
	c.asks = anyAsks(r, c.trains, r.IntN(20))
	switch r.IntN(10) {
	case 0:
		c.line[r.IntN(len(l))] = oddNumber(r)
	case 1:
		c.line = append(c.line, repeat(1, r.IntN(9))...)
	case 2:
		c.line = c.line[:r.IntN(len(l))]
	case 3:
		c.trains = append(c.trains, rail.Train{At: oddNumber(r), To: oddNumber(r)})
	case 4:
		c.trains = append(c.trains, make([]rail.Train, r.IntN(5))...)
	case 5:
		c.train = oddNumber(r)
	case 6:
		c.plan = append(c.plan, oddNumber(r))
	case 7:
		c.asks = append(c.asks, oddNumber(r))
	case 8:
		c.asks = anyAsks(r, c.trains, 498+r.IntN(5))
	}
	return c
}

// TestP5_Ends: no function panics, arguments are not changed, and the same arguments have the same results (P1, R4).
func TestP5_Ends(t *testing.T) {
	r := rand.New(rand.NewPCG(5, 20))
	found := map[any]int{}
	for range 5000 {
		c := oddCall(r)
		before := c.clone()
		first := c.results()
		found[first[0]]++
		if !reflect.DeepEqual(c, before) {
			t.Fatalf("arguments were changed from %v to %v", before, c)
		}
		if second := c.clone().results(); !reflect.DeepEqual(first, second) {
			t.Fatalf("%v and then %v", first, second)
		}
	}
	if len(found) != 6 {
		t.Errorf("the results of Check were %v", found)
	}
}

// TestP5_Zero: with an error all other results are zero values, but for the place of Verify (R2).
func TestP5_Zero(t *testing.T) {
	r := rand.New(rand.NewPCG(5, 21))
	found := map[api.Errno]int{}
	for range 3000 {
		c := oddCall(r)
		after, e1 := rail.Move(c.line, c.trains, c.train)
		plan, e2 := rail.Plan(c.line, c.trains)
		let, end, e3 := rail.Dispatch(c.line, c.trains, c.asks)
		if e1 != api.OK && len(after) > 0 || e2 != api.OK && len(plan) > 0 || e3 != api.OK && len(let)+len(end) > 0 {
			t.Fatalf("%v: %v %d, %v %d, %v %v %d", c, after, e1, plan, e2, let, end, e3)
		}
		found[e1]++
		found[e2]++
		found[e3]++
	}
	if len(found) != 9 {
		t.Errorf("the errors were %v", found)
	}
}

// TestP5_Room: what lies behind the end of a list is not written to (R4).
func TestP5_Room(t *testing.T) {
	all := call{line: append(chapterLine(), 7, 7), trains: append(stateT(), trains(7, 7, 7, 7)...),
		plan: list(0, 0, 2, 7, 7), asks: list(0, 2, 1, 7, 7)}
	c := all
	c.line, c.trains, c.plan, c.asks = c.line[:7], c.trains[:3], c.plan[:3], c.asks[:3]
	before := all.clone()
	c.results()
	if !reflect.DeepEqual(all, before) {
		t.Errorf("arguments were changed from %v to %v", before, all)
	}
}

// TestP5_Memory: results share no memory with arguments, with each other, or with those of another call (R4).
func TestP5_Memory(t *testing.T) {
	c := call{line: chapterLine(), trains: stateS(), plan: list(0, 0), asks: list(0, 1, 0)}
	before, want := c.clone(), c.results()
	possible, _ := rail.Possible(c.line, c.trains)
	after, _ := rail.Move(c.line, c.trains, c.train)
	plan, _ := rail.Plan(c.line, c.trains)
	good, _ := rail.Good(c.line, c.trains)
	_, end, _ := rail.Dispatch(c.line, c.trains, nil)
	possible[0], after[1].At, plan[0], good[0], end[0].At, end[1].To = 77, 77, 77, 77, 77, 77
	if !reflect.DeepEqual(c, before) {
		t.Errorf("arguments were changed to %v", c)
	}
	if got := c.results(); !reflect.DeepEqual(got, want) {
		t.Errorf("%v, want %v", got, want)
	}
}

// TestR3_Nil: an empty list and a nil one are the same.
func TestR3_Nil(t *testing.T) {
	for i, x := range [][2]call{
		{{}, {line: rail.Line{}, trains: trains(), plan: list(), asks: list()}},
		{{line: chapterLine()}, {line: chapterLine(), trains: []rail.Train{}, plan: list(), asks: []int{}}},
		{{line: chapterLine(), trains: stateS()}, {line: chapterLine(), trains: stateS(), plan: []int{}, asks: []int{}}},
		{{line: chapterLine(), trains: stateV()}, {line: chapterLine(), trains: stateV(), plan: []int{}, asks: []int{}}},
	} {
		a, b := x[0].results(), x[1].results()
		for j := range a {
			if !sameResult(a[j], b[j]) {
				t.Errorf("%d, result %d: %v and %v", i, j, a[j], b[j])
			}
		}
	}
}

// sameResult compares results, where an empty list is the same as a nil one.
func sameResult(a, b any) bool {
	v := reflect.ValueOf(a)
	if v.Kind() == reflect.Slice && v.Len() == 0 {
		return reflect.ValueOf(b).Len() == 0
	}
	return reflect.DeepEqual(a, b)
}

// TestExamples is the chapter's table.
func TestExamples(t *testing.T) {
	l := chapterLine()
	for i, x := range []struct {
		t    []rail.Train
		want said
	}{
		{stateS(), said{safe: true, possible: list(0, 1), good: list(0, 1)}},
		{stateW(), said{safe: true, possible: list(0, 1), good: list(1)}},
		{stateT(), said{safe: true, possible: list(0, 1), good: list(0)}},
		{stateV(), said{stuck: true}},
	} {
		if got := say(t, l, x.t); !got.equals(x.want) {
			t.Errorf("%d: %v, want %v", i, got, x.want)
		}
	}
	plan := append(repeat(0, 6), repeat(1, 6)...)
	if at, e := rail.Verify(l, stateS(), plan); at != 12 || e != api.OK {
		t.Errorf("Verify = %d %d", at, e)
	}
	checkPlan(t, l, stateS(), true)
	after, e := rail.Move(l, stateW(), 0)
	if !slices.Equal(after, trains(4, 6, 5, 0)) || e != api.OK {
		t.Errorf("Move = %v %d", after, e)
	}
	if again, e := rail.Move(l, after, 0); len(again) > 0 || e != api.ErrFull {
		t.Errorf("Move = %v %d", again, e)
	}
	if at, e := rail.Verify(l, stateS(), list(0, 0, 0, 1, 0, 0)); at != 5 || e != api.ErrFull {
		t.Errorf("Verify = %d %d", at, e)
	}
	let, end, e := rail.Dispatch(l, stateS(), list(0, 0, 0, 1, 0, 1, 0))
	if !slices.Equal(let, []bool{true, true, true, true, false, true, false}) || !slices.Equal(end, trains(3, 6, 4, 0)) || e != api.OK {
		t.Errorf("Dispatch = %v %v %d", let, end, e)
	}
}

func TestLimits(t *testing.T) {
	limits := list(rail.MaxSections, rail.MaxRoom, rail.MaxTrains, rail.MaxAsks)
	if !slices.Equal(limits, list(8, 5, 5, 500)) {
		t.Errorf("limits are %v", limits)
	}
}
