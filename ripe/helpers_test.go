package ripe_test

import (
	"math/rand/v2"
	"slices"

	"zafra/api"
	"zafra/ripe"
)

func list(l ...int) []int { return l }

func span(lo, hi int) api.Span { return api.Span{Lo: lo, Hi: hi} }

// field returns a field with samples of three numbers each: week, value and off.
func field(weeks, lo, hi int, samples ...int) ripe.Field {
	f := ripe.Field{Weeks: weeks, Range: span(lo, hi)}
	for s := range slices.Chunk(samples, 3) {
		f.Samples = append(f.Samples, ripe.Sample{Week: s[0], Value: s[1], Off: s[2]})
	}
	return f
}

// chapterField is F of the chapter's examples.
func chapterField() ripe.Field { return field(5, 0, 2000, 0, 1000, 20, 2, 1400, 20, 4, 1200, 30) }

// clashField is Z of the chapter's examples.
func clashField() ripe.Field { return field(5, 0, 2000, 0, 1000, 20, 2, 900, 10, 4, 1200, 30) }

// badField is a field with the error that Check has for it.
type badField struct {
	field ripe.Field
	want  api.Errno
}

func badFields() []badField {
	const most, least = ripe.MaxSweet, -1 << 63
	many := make([]ripe.Sample, ripe.MaxSamples+1)
	many[0].Week = -1
	return []badField{
		{field(0, 0, 9), api.ErrRange},
		{field(-1, 0, 9), api.ErrRange},
		{field(ripe.MaxWeeks+1, 0, 9), api.ErrRange},
		{field(1<<63-1, 0, 9), api.ErrRange},
		{field(1, 5, 4), api.ErrRange},
		{field(1, -1, 9), api.ErrRange},
		{field(1, 0, most+1), api.ErrRange},
		{field(1, most+1, most+1), api.ErrRange},
		{field(1, -1, -1), api.ErrRange},
		{field(1, least, 1<<63-1), api.ErrRange},
		{ripe.Field{Weeks: 0, Samples: many}, api.ErrRange},
		{ripe.Field{Weeks: 1, Range: span(1, 0), Samples: many}, api.ErrRange},
		{ripe.Field{Weeks: 1, Samples: many}, api.ErrMany},
		{field(2, 0, 9, 2, 5, 0), api.ErrNone},
		{field(2, 0, 9, -1, 5, 0), api.ErrNone},
		{field(2, 0, 9, least, 5, 0), api.ErrNone},
		{field(2, 0, 9, 2, -1, -1), api.ErrNone},
		{field(2, 0, 9, 0, -1, 0), api.ErrRange},
		{field(2, 0, 9, 0, most+1, 0), api.ErrRange},
		{field(2, 0, 9, 0, 5, -1), api.ErrRange},
		{field(2, 0, 9, 0, 5, most+1), api.ErrRange},
		{field(2, 0, 9, 0, least, 1<<63-1), api.ErrRange},
		{field(2, 0, 9, 1, 5, 0, 2, 5, 0, 1, -1, 0), api.ErrNone},
		{field(2, 0, 9, 1, 5, 0, 1, -1, 0, 2, 5, 0), api.ErrRange},
		// Nothing agrees with the samples, but one of them is none.
		{field(2, 0, 9, 0, 1, 0, 0, 2, 0, 7, 5, 0), api.ErrNone},
	}
}

// anyField returns a field with small numbers, whose samples often contradict each other.
func anyField(r *rand.Rand, mostWeeks int) ripe.Field {
	lo := r.IntN(4)
	f := field(1+r.IntN(mostWeeks), lo, lo+r.IntN(12))
	for range r.IntN(5) {
		f.Samples = append(f.Samples, ripe.Sample{Week: r.IntN(f.Weeks), Value: r.IntN(14), Off: r.IntN(6)})
	}
	return f
}

// part is how many units the sweetness of a truth has, so that it need not be whole.
const part = 4

// truth is the sweetness of each week.
type truth []int

// anyTruth returns a sweetness whose steps never become greater.
func anyTruth(r *rand.Rand, mostWeeks int) truth {
	steps := make([]int, r.IntN(mostWeeks))
	size := 1 + r.IntN(1+r.IntN(300))
	for i := range steps {
		steps[i] = r.IntN(2*size+1) - size + r.IntN(size)/2
	}
	slices.Sort(steps)
	slices.Reverse(steps)
	t := truth{r.IntN(40)}
	for _, step := range steps {
		t = append(t, t[len(t)-1]+step)
	}
	if below := slices.Min(t); below < 0 {
		for week := range t {
			t[week] -= below
		}
	}
	if r.IntN(3) == 0 { // A level peak.
		most := r.IntN(slices.Max(t) + 1)
		for week := range t {
			t[week] = min(t[week], most)
		}
	}
	return t
}

// sample returns a sample of a week that agrees with the truth, sometimes just so.
func (t truth) sample(r *rand.Rand, week int) ripe.Sample {
	value := max(0, t[week]/part+r.IntN(21)-10)
	away := max(value*part-t[week], t[week]-value*part)
	return ripe.Sample{Week: week, Value: value, Off: (away+part-1)/part + r.IntN(2)*r.IntN(9)}
}

// trueField returns a field, and the truth that its samples were taken of.
func trueField(r *rand.Rand, mostWeeks int) (ripe.Field, truth) {
	t := anyTruth(r, mostWeeks)
	wide := r.IntN(30)
	f := field(len(t), max(0, slices.Min(t)/part-wide), slices.Max(t)/part+1+wide)
	for range r.IntN(8) {
		f.Samples = append(f.Samples, t.sample(r, r.IntN(len(t))))
	}
	return f, t
}

// manyFields calls a test with fields of both sorts, always the same ones.
func manyFields(count, mostWeeks int, test func(f ripe.Field)) {
	r := rand.New(rand.NewPCG(2, 1))
	for range count {
		test(anyField(r, mostWeeks))
		f, _ := trueField(r, mostWeeks)
		test(f)
	}
}

// regrets returns those of all weeks.
func regrets(f ripe.Field) []int {
	all := make([]int, f.Weeks)
	for week := range all {
		all[week], _ = ripe.Regret(f, week)
	}
	return all
}

// triples returns all lists of three weeks.
func triples(weeks int) [][]int {
	var all [][]int
	for i := range weeks {
		for j := range weeks {
			for k := range weeks {
				all = append(all, list(i, j, k))
			}
		}
	}
	return all
}

func possible(f ripe.Field) bool {
	_, e := ripe.Known(f)
	return e == api.OK
}
