package gang_test

import (
	"math/rand/v2"
	"reflect"
	"slices"
	"testing"

	"zafra/api"
	"zafra/gang"
)

// call is the arguments of all functions.
type call struct {
	fields             []gang.Field
	guesses            []gang.Guess
	plan               []int
	gangs, wage, sugar int
}

// results calls each function, and returns all results.
func (c call) results() []any {
	used, own, e1 := gang.Sugar(c.fields, c.plan)
	plan, most, e2 := gang.Best(c.fields, c.gangs)
	all, e3 := gang.All(c.fields)
	bound, e4 := gang.Bound(c.fields, c.gangs, c.wage)
	wages, e5 := gang.Wages(c.fields, c.gangs)
	from, to, gain, e6 := gang.Exchange(c.fields, c.gangs, c.plan)
	share, sugar, e7 := gang.Shares(c.guesses, c.gangs)
	return []any{gang.Check(c.fields), used, own, e1, plan, most, e2, all, e3, bound, e4, wages, e5,
		gang.Verify(c.fields, c.gangs, c.wage, c.sugar), from, to, gain, e6, share, sugar, e7}
}

// clone returns the same arguments in other memory.
func (c call) clone() call {
	c.fields, c.guesses, c.plan = slices.Clone(c.fields), slices.Clone(c.guesses), slices.Clone(c.plan)
	for i, f := range c.fields {
		c.fields[i] = slices.Clone(f)
	}
	for i, g := range c.guesses {
		c.guesses[i] = slices.Clone(g)
	}
	return c
}

// oddNumber returns numbers that are often not as stated, or just so.
func oddNumber(r *rand.Rand) int {
	odd := []int{lowest, highest, -2, -1, 0, 1, 2, 10, 11, 200, 201, gang.MaxGain, gang.MaxGain + 1}
	return odd[r.IntN(len(odd))]
}

// oddCall returns arguments that may have any error.
func oddCall(r *rand.Rand) call {
	c := call{fields: anyFields(r, 5, 5, 9), guesses: anyGuesses(r, 5, 5, 9), gangs: r.IntN(20), wage: r.IntN(12), sugar: r.IntN(99)}
	c.plan = anyPlan(r, c.fields)
	switch r.IntN(8) {
	case 0:
		c.gangs, c.wage, c.sugar = oddNumber(r), oddNumber(r), oddNumber(r)
	case 1:
		c.fields = append(c.fields, list(oddNumber(r), oddNumber(r)))
		c.guesses = append(c.guesses, guess(oddNumber(r), oddNumber(r), oddNumber(r), oddNumber(r)))
	case 2:
		c.fields = append(c.fields, make([]gang.Field, r.IntN(12))...)
		c.guesses = append(c.guesses, make([]gang.Guess, r.IntN(12))...)
	case 3:
		c.fields = append(c.fields, make(gang.Field, r.IntN(15)))
		c.guesses = append(c.guesses, make(gang.Guess, r.IntN(15)))
	case 4:
		c.plan = append(c.plan, oddNumber(r))
	case 5:
		if len(c.plan) > 0 {
			c.plan[r.IntN(len(c.plan))] = oddNumber(r)
		}
	}
	return c
}

// TestP3_Ends: no function panics, arguments are not changed, and the same arguments have the same results (P1, R4).
func TestP3_Ends(t *testing.T) {
	r := rand.New(rand.NewPCG(3, 20))
	for range 5000 {
		c := oddCall(r)
		before := c.clone()
		first := c.results()
		if !reflect.DeepEqual(c, before) {
			t.Fatalf("arguments were changed from %v to %v", before, c)
		}
		if second := c.clone().results(); !reflect.DeepEqual(first, second) {
			t.Fatalf("%v and then %v", first, second)
		}
	}
}

// TestP3_Room: what lies behind the end of a list is not written to (R4).
func TestP3_Room(t *testing.T) {
	long := append(chapterFields(), list(6, 6), list(4))
	moreGuesses := append(chapterGuesses(), guess(1, 9))
	c := call{fields: long[:3], guesses: moreGuesses[:2], plan: list(3, 0, 1, 77)[:3], gangs: 4, wage: 5, sugar: 29}
	long[0] = append(list(9, 7, 2), 1, 1)[:3]
	c.results()
	want := append(chapterFields(), list(6, 6), list(4))
	if !reflect.DeepEqual(long, want) || !slices.Equal(long[0][:5], list(9, 7, 2, 1, 1)) || c.plan[:4][3] != 77 {
		t.Errorf("fields are now %v %v, the plan %v", long, long[0][:5], c.plan[:4])
	}
	if !reflect.DeepEqual(moreGuesses, append(chapterGuesses(), guess(1, 9))) {
		t.Errorf("guesses are now %v", moreGuesses)
	}
}

// TestR4_Results: a result that is changed changes no argument and no later result.
func TestR4_Results(t *testing.T) {
	c := call{fields: chapterFields(), guesses: chapterGuesses(), plan: list(3, 0, 1), gangs: 4, wage: 5, sugar: 29}
	before, want := c.clone(), c.clone().results()
	plan, _, _ := gang.Best(c.fields, c.gangs)
	all, _ := gang.All(c.fields)
	share, _, _ := gang.Shares(c.guesses, c.gangs)
	plan[0], all[0], share[0] = 77, 77, span(77, 77)
	if !reflect.DeepEqual(c, before) {
		t.Errorf("arguments were changed to %v", c)
	}
	if got := c.results(); !reflect.DeepEqual(got, want) {
		t.Errorf("%v, want %v", got, want)
	}
}

// TestR3_Nil: an empty list and a nil one are the same.
func TestR3_Nil(t *testing.T) {
	for _, gangs := range list(0, 3) {
		for i, x := range [][2]call{
			{{}, {fields: []gang.Field{}, guesses: []gang.Guess{}, plan: list()}},
			{{fields: fields(nil, list(1)), guesses: guesses(nil, guess(0, 1)), plan: list(0, 0)},
				{fields: fields(list(), list(1)), guesses: guesses(gang.Guess{}, guess(0, 1)), plan: list(0, 0)}},
		} {
			x[0].gangs, x[1].gangs = gangs, gangs
			a, b := x[0].results(), x[1].results()
			for j := range a {
				if !sameResult(a[j], b[j]) {
					t.Errorf("%d, result %d: %v and %v", i, j, a[j], b[j])
				}
			}
		}
	}
}

// sameResult compares results, where an empty list is the same as a nil one.
func sameResult(a, b any) bool {
	if l, is := a.([]int); is {
		return slices.Equal(l, b.([]int))
	}
	if l, is := a.([]api.Span); is {
		return slices.Equal(l, b.([]api.Span))
	}
	return a == b
}

// TestExamples is the chapter's table.
func TestExamples(t *testing.T) {
	l := chapterFields()
	if plan, sugar, e := gang.Best(l, 4); sugarOf(l, plan) != 29 || used(plan) > 4 || sugar != 29 || e != api.OK {
		t.Errorf("Best = %v %d %d", plan, sugar, e)
	}
	if all, e := gang.All(l); !slices.Equal(all, list(0, 9, 17, 24, 29, 34, 39, 42, 44)) || e != api.OK {
		t.Errorf("All = %v %d", all, e)
	}
	for gangs, want := range map[int]api.Span{4: span(5, 5), 3: span(5, 7), 8: span(0, 2), 0: span(9, 1000000)} {
		if wages, e := gang.Wages(l, gangs); wages != want || e != api.OK {
			t.Errorf("Wages of %d = %v %d, want %v", gangs, wages, e, want)
		}
	}
	for _, wage := range list(4, 7) {
		if bound, e := gang.Bound(l, 4, wage); bound != 31 || e != api.OK {
			t.Errorf("Bound of %d = %d %d", wage, bound, e)
		}
	}
	if e, f := gang.Verify(l, 4, 5, 29), gang.Verify(l, 4, 5, 28); e != api.OK || f != api.ErrProof {
		t.Errorf("Verify = %d and %d", e, f)
	}
	for i, x := range []struct {
		plan []int
		want trade
	}{{list(3, 0, 1), trade{0, 1, 6, 0}}, {list(2, 0, 2), trade{2, 1, 3, 0}}, {list(2, 1, 1), trade{e: api.ErrNone}}} {
		if got := exchange(l, 4, x.plan); got != x.want {
			t.Errorf("Exchange %d = %v, want %v", i, got, x.want)
		}
	}
	share, sugar, e := gang.Shares(chapterGuesses(), 2)
	if !slices.Equal(share, []api.Span{span(1, 2), span(0, 1), span(0, 1)}) || sugar != span(14, 17) || e != api.OK {
		t.Errorf("Shares = %v %v %d", share, sugar, e)
	}
}

func TestLimits(t *testing.T) {
	limits := list(gang.MaxFields, gang.MaxTable, gang.MaxGain, gang.MaxGangs, gang.Spare)
	if !slices.Equal(limits, list(12, 10, 1000000, 200, -1)) {
		t.Errorf("limits are %v", limits)
	}
}
