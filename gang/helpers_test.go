package gang_test

import (
	"iter"
	"math/rand/v2"
	"slices"

	"zafra/api"
	"zafra/gang"
)

const (
	lowest  = -1 << 63
	highest = 1<<63 - 1
)

func list(l ...int) []int { return l }

func span(lo, hi int) api.Span { return api.Span{Lo: lo, Hi: hi} }

func fields(l ...gang.Field) []gang.Field { return l }

func guesses(l ...gang.Guess) []gang.Guess { return l }

// guess returns spans of two numbers each.
func guess(ends ...int) gang.Guess {
	var g gang.Guess
	for s := range slices.Chunk(ends, 2) {
		g = append(g, span(s[0], s[1]))
	}
	return g
}

// chapterFields is L of the chapter's examples.
func chapterFields() []gang.Field { return fields(list(9, 7, 2), list(8, 3), list(5, 5, 5)) }

// chapterGuesses is G of the chapter's examples.
func chapterGuesses() []gang.Guess { return guesses(guess(8, 9, 6, 7), guess(4, 8, 3, 3), guess(5, 6)) }

// fullFields is as much as can be: 120 gains, each the greatest one.
func fullFields() []gang.Field {
	l := make([]gang.Field, gang.MaxFields)
	for i := range l {
		l[i] = slices.Repeat(gang.Field{gang.MaxGain}, gang.MaxTable)
	}
	return l
}

// badFields is fields with the error that Check has for them.
type badFields struct {
	fields []gang.Field
	want   api.Errno
}

func allBadFields() []badFields {
	const most = gang.MaxGain
	many := make([]gang.Field, gang.MaxFields+1)
	many[0] = list(-1)
	long := make(gang.Field, gang.MaxTable+1)
	long[0] = -1
	return []badFields{
		{many, api.ErrMany},
		{make([]gang.Field, gang.MaxFields+1), api.ErrMany},
		{fields(long), api.ErrMany},
		{fields(nil, make(gang.Field, gang.MaxTable+1)), api.ErrMany},
		{fields(list(-1)), api.ErrRange},
		{fields(list(most + 1)), api.ErrRange},
		{fields(list(lowest)), api.ErrRange},
		{fields(list(highest)), api.ErrRange},
		{fields(list(5, -1)), api.ErrRange},
		{fields(list(5, most+1)), api.ErrRange},
		{fields(list(5, 6)), api.ErrOrder},
		{fields(list(0, 1)), api.ErrOrder},
		{fields(list(9, 5, 6)), api.ErrOrder},
		{fields(list(9, 5, 9)), api.ErrOrder},
		// The first gain, and the first field, decides.
		{fields(list(5, 6, -1)), api.ErrOrder},
		{fields(list(5, -1, 6)), api.ErrRange},
		{fields(list(9, 8), list(-1), long), api.ErrRange},
		{fields(list(9, 8), long, list(-1)), api.ErrMany},
		{fields(nil, list(3, 4), long, list(-1)), api.ErrOrder},
	}
}

// anyField returns a field with up to mostGains gains from 0 to most, among them equal ones.
func anyField(r *rand.Rand, mostGains, most int) gang.Field {
	f := make(gang.Field, r.IntN(mostGains+1))
	for i := range f {
		f[i] = r.IntN(most + 1)
	}
	slices.Sort(f)
	slices.Reverse(f)
	return f
}

func anyFields(r *rand.Rand, mostFields, mostGains, most int) []gang.Field {
	l := make([]gang.Field, r.IntN(mostFields+1))
	for i := range l {
		l[i] = anyField(r, mostGains, most)
	}
	return l
}

// manyFields calls a test with small and with large fields, always the same ones.
func manyFields(seed uint64, test func(r *rand.Rand, l []gang.Field)) {
	r := rand.New(rand.NewPCG(3, seed))
	for range 300 {
		test(r, anyFields(r, 4, 4, 1+r.IntN(8)))
	}
	for range 40 {
		test(r, anyFields(r, gang.MaxFields, gang.MaxTable, 1+r.IntN(gang.MaxGain)))
	}
	test(r, fullFields())
}

// anyGangs returns a number of gangs that is often less than the fields have room for, and sometimes more.
func anyGangs(r *rand.Rand, l []gang.Field) int { return r.IntN(room(l) + 3) }

// room returns how many gangs fields can have.
func room(l []gang.Field) int {
	n := 0
	for _, f := range l {
		n += len(f)
	}
	return n
}

func anyPlan(r *rand.Rand, l []gang.Field) []int {
	plan := make([]int, len(l))
	for i, f := range l {
		plan[i] = r.IntN(len(f) + 1)
	}
	return plan
}

func used(plan []int) int {
	n := 0
	for _, gangs := range plan {
		n += gangs
	}
	return n
}

// sugarOf returns the sugar of a plan.
func sugarOf(l []gang.Field, plan []int) int {
	sugar := 0
	for i, n := range plan {
		for place := range n {
			sugar += l[i][place]
		}
	}
	return sugar
}

// plans ranges over all plans; each is of use until the next one.
func plans(l []gang.Field) iter.Seq[[]int] {
	return func(yield func([]int) bool) {
		plan := make([]int, len(l))
		for yield(plan) {
			i := 0
			for i < len(l) && plan[i] == len(l[i]) {
				plan[i] = 0
				i++
			}
			if i == len(l) {
				return
			}
			plan[i]++
		}
	}
}

// sharedOut returns the most sugar of up to so many gangs, for each number of gangs, field by field: without the
// assumption that greater gains come first.
func sharedOut(l []gang.Field, gangs int) []int {
	most := make([]int, gangs+1)
	for _, f := range l {
		next := slices.Clone(most)
		for n := range most {
			sugar := 0
			for place := range min(len(f), n) {
				sugar += f[place]
				next[n] = max(next[n], most[n-place-1]+sugar)
			}
		}
		most = next
	}
	return most
}

// bestPlans returns all best plans.
func bestPlans(l []gang.Field, gangs int) [][]int {
	most := sharedOut(l, gangs)[gangs]
	var best [][]int
	for plan := range plans(l) {
		if used(plan) <= gangs && sugarOf(l, plan) == most {
			best = append(best, slices.Clone(plan))
		}
	}
	return best
}

// anyGuess returns a guess of up to mostSpans spans within 0 to most.
func anyGuess(r *rand.Rand, mostSpans, most int) gang.Guess {
	a := anyField(r, mostSpans, most)
	g := make(gang.Guess, len(a))
	b := make(gang.Field, len(a))
	for i := range b {
		b[i] = min(most, max(0, a[i]+r.IntN(1+most/2)-most/4))
	}
	slices.Sort(b)
	slices.Reverse(b)
	for i := range g {
		g[i] = span(min(a[i], b[i]), max(a[i], b[i]))
	}
	return g
}

func anyGuesses(r *rand.Rand, mostFields, mostSpans, most int) []gang.Guess {
	l := make([]gang.Guess, r.IntN(mostFields+1))
	for i := range l {
		l[i] = anyGuess(r, mostSpans, most)
	}
	return l
}

// anyTruth returns fields that agree with guesses.
func anyTruth(r *rand.Rand, l []gang.Guess) []gang.Field {
	truth := make([]gang.Field, len(l))
	for i, g := range l {
		truth[i] = make(gang.Field, len(g))
		last := gang.MaxGain
		for place, s := range g {
			hi := min(s.Hi, last)
			switch r.IntN(4) {
			case 0:
				last = s.Lo
			case 1:
				last = hi
			default:
				last = s.Lo + r.IntN(hi-s.Lo+1)
			}
			truth[i][place] = last
		}
	}
	return truth
}

// truths returns all lists of gains that agree with a guess.
func truths(g gang.Guess) []gang.Field {
	all := fields(nil)
	for _, s := range g {
		var longer []gang.Field
		for _, f := range all {
			for gain := s.Lo; gain <= s.Hi; gain++ {
				if len(f) == 0 || gain <= f[len(f)-1] {
					longer = append(longer, append(slices.Clone(f), gain))
				}
			}
		}
		all = longer
	}
	return all
}

// valleys ranges over all fields that agree with guesses; each is of use until the next one.
func valleys(l []gang.Guess) iter.Seq[[]gang.Field] {
	return func(yield func([]gang.Field) bool) {
		valley := make([]gang.Field, len(l))
		fill(l, 0, valley, yield)
	}
}

// fill chooses the gains of the fields from first on, and returns whether more are wanted.
func fill(l []gang.Guess, first int, valley []gang.Field, yield func([]gang.Field) bool) bool {
	if first == len(l) {
		return yield(valley)
	}
	for _, f := range truths(l[first]) {
		valley[first] = f
		if !fill(l, first+1, valley, yield) {
			return false
		}
	}
	return true
}
