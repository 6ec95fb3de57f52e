package pan_test

import (
	"math/rand/v2"
	"reflect"
	"slices"
	"testing"

	"zafra/api"
	"zafra/pan"
)

// call is the arguments of all functions.
type call struct {
	work    pan.Work
	cycle   []int
	period  pan.Period
	table   []int
	strikes int
}

// results calls each function, and returns all results.
func (c call) results() []any {
	pace, e1 := pan.Pace(c.work)
	hold, e2 := pan.Hold(c.work)
	holds, e3 := pan.Holds(c.work, c.cycle)
	table, e4 := pan.Table(c.work)
	runs, e5 := pan.Runs(c.work, c.strikes)
	kept, e6 := pan.Kept(c.work, c.period)
	return []any{pan.Check(c.work), pace, e1, hold, e2, holds, e3, table, e4, runs, e5, kept, e6,
		pan.Verify(c.work, c.period, c.table)}
}

// clone returns the same arguments in other memory.
func (c call) clone() call {
	c.work, c.cycle, c.table = clone(c.work), slices.Clone(c.cycle), slices.Clone(c.table)
	return c
}

// oddNumber returns numbers that are often not as stated, or just so.
func oddNumber(r *rand.Rand) int {
	odd := []int{lowest, highest, -2, -1, 0, 1, 2, 3, 4, 5, 9, 10, 11, 39, 40, 41, 199, 200, 201, 999, 1000, 1001, 9999,
		10000, 10001, 999999999, 1000000000, 1000000001, 1 << 32, 1 << 62, -1 << 62}
	return odd[r.IntN(len(odd))]
}

// oddWork returns a work that may have any error.
func oddWork(r *rand.Rand) pan.Work {
	w := freeWork(r, pan.MaxSteps, pan.MaxWaits, []int{3, 100, pan.MaxTakes}[r.IntN(3)])
	wait := &pan.Wait{}
	if len(w.Waits) > 0 {
		wait = &w.Waits[r.IntN(len(w.Waits))]
	}
	switch r.IntN(16) {
	case 0:
		w.Steps = oddNumber(r)
	case 1:
		w.Waits = append(w.Waits, manyWaits(r.IntN(42))...)
	case 2:
		wait.From = oddNumber(r)
	case 3:
		wait.To = oddNumber(r)
	case 4:
		wait.Takes = span(oddNumber(r), oddNumber(r))
	case 5:
		wait.Takes.Hi = oddNumber(r)
	case 6:
		wait.Back = oddNumber(r)
	}
	return w
}

// oddCall returns arguments that may have any error.
func oddCall(r *rand.Rand) call {
	c := call{work: oddWork(r), strikes: r.IntN(30)}
	c.cycle, _ = pan.Hold(c.work)
	c.period, _ = pan.Pace(c.work)
	c.table, _ = pan.Table(c.work)
	switch r.IntN(12) {
	case 0:
		c.cycle = append(c.cycle, oddNumber(r))
	case 1:
		c.cycle = r.Perm(max(1, len(c.work.Waits)))
	case 2:
		c.cycle = slices.Concat(c.cycle, c.cycle)
	case 3:
		c.period.Num = oddNumber(r)
	case 4:
		c.period.Den = oddNumber(r)
	case 5:
		c.table = append(c.table, oddNumber(r))
	case 6:
		if len(c.table) > 0 {
			c.table[r.IntN(len(c.table))] = oddNumber(r)
		}
	case 7:
		c.strikes = oddNumber(r)
	case 8:
		c.period.Num--
	}
	return c
}

// TestP6_Ends: no function panics, arguments are not changed, and the same arguments have the same results (P1, R4).
func TestP6_Ends(t *testing.T) {
	r := rand.New(rand.NewPCG(6, 40))
	found := map[any]int{}
	for range 5000 {
		c := oddCall(r)
		before := c.clone()
		first := c.results()
		found[first[0]]++
		if !reflect.DeepEqual(c, before) {
			t.Fatalf("arguments were changed from %v to %v", before, c)
		}
		if second := c.clone().results(); !reflect.DeepEqual(first, second) {
			t.Fatalf("%v and then %v", first, second)
		}
	}
	if len(found) != 5 {
		t.Errorf("the results of Check were %v", found)
	}
}

// TestP6_Zero: with an error all other results are zero values (R2).
func TestP6_Zero(t *testing.T) {
	r := rand.New(rand.NewPCG(6, 41))
	found := map[api.Errno]int{}
	for range 5000 {
		all := oddCall(r).results()
		// From Pace to Kept a result and its error come in turn.
		for pair := range slices.Chunk(all[1:len(all)-1], 2) {
			v, e := reflect.ValueOf(pair[0]), pair[1].(api.Errno)
			isZero := v.IsZero() || v.Kind() == reflect.Slice && v.Len() == 0
			if e != api.OK && !isZero {
				t.Fatalf("%v, with the error %d", pair[0], e)
			}
			found[e]++
		}
		found[all[len(all)-1].(api.Errno)]++
	}
	if len(found) != 9 {
		t.Errorf("the errors were %v", found)
	}
}

// TestP6_Room: what lies behind the end of a list is not written to (R4).
func TestP6_Room(t *testing.T) {
	waits := append(workW().Waits, pan.Wait{From: 7}, pan.Wait{From: 8})
	all := call{work: pan.Work{Steps: 3, Waits: waits}, cycle: list(0, 1, 2, 7, 7), period: period(75, 1),
		table: list(0, 40, 60, 7, 7), strikes: 5}
	c := all
	c.work.Waits, c.cycle, c.table = c.work.Waits[:5], c.cycle[:3], c.table[:3]
	before := all.clone()
	c.results()
	if !reflect.DeepEqual(all, before) {
		t.Errorf("arguments were changed from %v to %v", before, all)
	}
}

// TestP6_Memory: results share no memory with arguments, with each other, or with those of another call (R4).
func TestP6_Memory(t *testing.T) {
	c := call{work: workW(), cycle: list(0, 1, 2), period: period(75, 1), table: list(0, 40, 60), strikes: 3}
	before, want := c.clone(), c.results()
	hold, _ := pan.Hold(c.work)
	table, _ := pan.Table(c.work)
	runs, _ := pan.Runs(c.work, c.strikes)
	hold[0], table[1] = 77, 77
	runs[1][2] = span(77, 77)
	runs[0] = append(runs[0], span(78, 78))
	if runs[1][0] != span(60, 75) || runs[2][2] == span(77, 77) {
		t.Errorf("rows share memory: %v", runs)
	}
	if !reflect.DeepEqual(c, before) {
		t.Errorf("arguments were changed to %v", c)
	}
	if got := c.results(); !reflect.DeepEqual(got, want) {
		t.Errorf("%v, want %v", got, want)
	}
}

// TestR3_Nil: an empty list and a nil one are the same.
func TestR3_Nil(t *testing.T) {
	for i, x := range [][2]call{
		{{}, {work: pan.Work{Waits: []pan.Wait{}}, cycle: list(), table: list()}},
		{{work: work(3)}, {work: pan.Work{Steps: 3, Waits: []pan.Wait{}}, cycle: []int{}, table: []int{}}},
		{{work: workW(), period: period(75, 1)}, {work: workW(), period: period(75, 1), cycle: []int{}, table: []int{}}},
	} {
		a, b := x[0].results(), x[1].results()
		for j := range a {
			if !sameResult(a[j], b[j]) {
				t.Errorf("%d, result %d: %v and %v", i, j, a[j], b[j])
			}
		}
	}
}

// sameResult compares results, where an empty list is the same as a nil one.
func sameResult(a, b any) bool {
	v := reflect.ValueOf(a)
	if v.Kind() == reflect.Slice && v.Len() == 0 {
		return reflect.ValueOf(b).Len() == 0
	}
	return reflect.DeepEqual(a, b)
}

// TestExamples is the chapter's table.
func TestExamples(t *testing.T) {
	w, u := workW(), workU()
	if a, b := mustPace(t, w), mustPace(t, u); a != period(75, 1) || b != period(50, 1) {
		t.Errorf("Pace = %v and %v", a, b)
	}
	for i, x := range []struct {
		w    pan.Work
		want pan.Period
	}{{w, period(75, 1)}, {u, period(50, 1)}} {
		cycle, e := pan.Hold(x.w)
		if p, f := pan.Holds(x.w, cycle); p != x.want || e != api.OK || f != api.OK {
			t.Errorf("%d: Hold = %v %d, Holds = %v %d", i, cycle, e, p, f)
		}
	}
	for i, x := range []struct {
		cycle []int
		p     pan.Period
		want  api.Errno
	}{
		{list(0, 1, 2), period(75, 1), api.OK}, {list(3), period(50, 1), api.OK}, {list(1, 4), period(45, 1), api.OK},
		{list(1, 2), period(0, 0), api.ErrShape}, {list(0, 1), period(0, 0), api.ErrShape},
	} {
		if p, e := pan.Holds(w, x.cycle); p != x.p || e != x.want {
			t.Errorf("%d: Holds = %v %d", i, p, e)
		}
	}
	if a, b := mustTable(t, w), mustTable(t, u); !slices.Equal(a, list(0, 40, 60)) || !slices.Equal(b, list(0, 40, 60)) {
		t.Errorf("Table = %v and %v", a, b)
	}
	verified := []api.Errno{pan.Verify(w, period(75, 1), list(0, 40, 60)), pan.Verify(w, period(74, 1), list(0, 40, 60)),
		pan.Verify(w, period(75, 1), list(0, 40, 59))}
	if !slices.Equal(verified, []api.Errno{api.OK, api.ErrProof, api.ErrProof}) {
		t.Errorf("Verify = %v", verified)
	}
	if runs := mustRun(t, w, 2); !sameRuns(runs, spans(3, 0, 0, 30, 40, 50, 60, 60, 75, 90, 115, 110, 135)) {
		t.Errorf("Runs = %v", runs)
	}
	a, e := pan.Kept(w, period(149, 2))
	b, f := pan.Kept(w, period(150, 2))
	if a || !b || e != api.OK || f != api.OK {
		t.Errorf("Kept = %v %d and %v %d", a, e, b, f)
	}
	w.Waits = append(w.Waits, pan.Wait{From: 2, To: 0})
	if e := pan.Check(w); e != api.ErrStuck {
		t.Errorf("Check = %d", e)
	}
}

func TestLimits(t *testing.T) {
	limits := list(pan.MaxSteps, pan.MaxWaits, pan.MaxTakes, pan.MaxBack, pan.MaxTime, pan.MaxStrikes)
	if !slices.Equal(limits, list(10, 40, 10000, 4, 1000000000, 200)) {
		t.Errorf("limits are %v", limits)
	}
}
