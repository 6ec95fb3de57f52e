package pan_test

import (
	"iter"
	"math/rand/v2"
	"slices"
	"testing"

	"zafra/api"
	"zafra/pan"
)

const (
	lowest  = -1 << 63
	highest = 1<<63 - 1
)

func list(l ...int) []int { return l }

func span(lo, hi int) api.Span { return api.Span{Lo: lo, Hi: hi} }

func period(num, den int) pan.Period { return pan.Period{Num: num, Den: den} }

// repeat returns a number so often.
func repeat(n, times int) []int { return slices.Repeat(list(n), times) }

// work returns a work: five numbers for each wait.
func work(steps int, l ...int) pan.Work {
	w := pan.Work{Steps: steps}
	for x := range slices.Chunk(l, 5) {
		w.Waits = append(w.Waits, pan.Wait{From: x[0], To: x[1], Takes: span(x[2], x[3]), Back: x[4]})
	}
	return w
}

// workW is W of the chapter's examples, and workU is U.
func workW() pan.Work {
	return work(3, 0, 1, 30, 40, 0, 1, 2, 20, 20, 0, 2, 0, 10, 15, 1, 1, 1, 50, 50, 1, 2, 1, 60, 70, 2)
}

func workU() pan.Work {
	w := workW()
	w.Waits = slices.Delete(w.Waits, 2, 3)
	return w
}

// ring returns a work whose steps wait for each other in a ring, each by some waits that take 1 minute more than the one
// before, and go back 1 strike.
func ring(steps, parallel int) pan.Work {
	w := pan.Work{Steps: steps}
	for step := range steps {
		for n := range parallel {
			w.Waits = append(w.Waits, pan.Wait{From: step, To: (step + 1) % steps, Takes: span(0, 100+n), Back: 1})
		}
	}
	return w
}

// cyclesOf ranges over all cycles of a work, each of them once: from its least step on. Each is of use until the next
// one.
func cyclesOf(w pan.Work) iter.Seq[[]int] {
	return func(yield func([]int) bool) {
		for step := range w.Steps {
			if !longer(w, step, step, nil, yield) {
				return
			}
		}
	}
}

// longer yields the cycles that begin with some waits, from a first step to the one where they are, and returns whether
// more are wanted.
func longer(w pan.Work, first, at int, way []int, yield func([]int) bool) bool {
	if at == first && len(way) > 0 {
		return yield(way)
	}
	left := slices.ContainsFunc(way, func(n int) bool { return w.Waits[n].From == at })
	if left || at < first {
		return true
	}
	for n, wait := range w.Waits {
		if wait.From == at && !longer(w, first, wait.To, append(way, n), yield) {
			return false
		}
	}
	return true
}

// timeOf returns the time of a cycle, and its strikes.
func timeOf(w pan.Work, cycle []int) (time, strikes int) {
	for _, n := range cycle {
		time += w.Waits[n].Takes.Hi
		strikes += w.Waits[n].Back
	}
	return time, strikes
}

func isStuck(w pan.Work) bool {
	for cycle := range cyclesOf(w) {
		if _, strikes := timeOf(w, cycle); strikes == 0 {
			return true
		}
	}
	return false
}

// compare compares the lengths of two periods.
func compare(a, b pan.Period) int { return a.Num*b.Den - b.Num*a.Den }

// lowestTerms returns the same period in lowest terms, by trying all divisors.
func lowestTerms(p pan.Period) pan.Period {
	for d := p.Den; d > 1; d-- {
		if p.Num%d == 0 && p.Den%d == 0 {
			return period(p.Num/d, p.Den/d)
		}
	}
	return p
}

// paceOf returns the period of the slowest cycle, or 0.
func paceOf(w pan.Work) pan.Period {
	pace := period(0, 1)
	for cycle := range cyclesOf(w) {
		if p := period(timeOf(w, cycle)); compare(p, pace) > 0 {
			pace = p
		}
	}
	return lowestTerms(pace)
}

// keeps returns whether a timetable keeps a period.
func keeps(w pan.Work, p pan.Period, table []int) bool {
	return !slices.ContainsFunc(w.Waits, func(wait pan.Wait) bool {
		return table[wait.To] < table[wait.From]+wait.Takes.Hi*p.Den-wait.Back*p.Num
	})
}

// longestWays returns the greatest lengths of ways from each step to each one, where a wait is as long as the beginning
// of its To has to be after that of its From; ways of no wait have the length 0. If a way back to its beginning is longer
// than that, the period cannot be kept.
func longestWays(w pan.Work, p pan.Period) (ways [pan.MaxSteps][pan.MaxSteps]int, can bool) {
	for from := range ways {
		for to := range ways {
			ways[from][to] = -api.Never
		}
		ways[from][from] = 0
	}
	for _, wait := range w.Waits {
		way := &ways[wait.From][wait.To]
		*way = max(*way, wait.Takes.Hi*p.Den-wait.Back*p.Num)
	}
	for over := range w.Steps {
		for from := range w.Steps {
			for to := range w.Steps {
				ways[from][to] = max(ways[from][to], ways[from][over]+ways[over][to])
			}
		}
		for step := range w.Steps {
			if ways[step][step] > 0 {
				return ways, false
			}
		}
	}
	return ways, true
}

// leastTable returns the timetable for a period whose numbers are as small as they can be, if there is one.
func leastTable(w pan.Work, p pan.Period) (table []int, can bool) {
	ways, can := longestWays(w, p)
	table = make([]int, w.Steps)
	for from := range w.Steps {
		for to := range w.Steps {
			table[to] = max(table[to], ways[from][to])
		}
	}
	return table, can
}

// truth says how long a wait takes in a strike: the one in which its To begins.
type truth func(strike, wait int) int

func allLeast(w pan.Work) truth { return func(_, wait int) int { return w.Waits[wait].Takes.Lo } }

func allMost(w pan.Work) truth { return func(_, wait int) int { return w.Waits[wait].Takes.Hi } }

// anyTruth returns a truth that has an end of a span more often than a number within.
func anyTruth(r *rand.Rand, w pan.Work, strikes int) truth {
	takes := make([][]int, strikes)
	ends := r.IntN(4)
	for strike := range takes {
		for _, wait := range w.Waits {
			n := wait.Takes.Lo + r.IntN(wait.Takes.Hi-wait.Takes.Lo+1)
			if r.IntN(3) < ends {
				n = []int{wait.Takes.Lo, wait.Takes.Hi}[r.IntN(2)]
			}
			takes[strike] = append(takes[strike], n)
		}
	}
	return func(strike, wait int) int { return takes[strike][wait] }
}

// beginnings returns the earliest beginning of each step of each strike in a truth, as the chapter defines it.
func beginnings(w pan.Work, strikes int, takes truth) [][]int {
	known := make([][]int, strikes)
	for strike := range known {
		known[strike] = repeat(-1, w.Steps)
	}
	var begin func(strike, step int) int
	begin = func(strike, step int) int {
		if known[strike][step] >= 0 {
			return known[strike][step]
		}
		most := 0
		for n, wait := range w.Waits {
			if wait.To == step && strike >= wait.Back {
				most = max(most, begin(strike-wait.Back, wait.From)+takes(strike, n))
			}
		}
		known[strike][step] = most
		return most
	}
	for strike := range strikes {
		for step := range w.Steps {
			begin(strike, step)
		}
	}
	return known
}

// lists ranges over all lists of so many numbers from least to most; each is of use until the next one.
func lists(length, least, most int) iter.Seq[[]int] {
	return func(yield func([]int) bool) {
		l := repeat(least, length)
		for yield(l) {
			n := 0
			for n < length && l[n] == most {
				l[n] = least
				n++
			}
			if n == length {
				return
			}
			l[n]++
		}
	}
}

// anyWork returns a work of up to so many steps and waits, which may get stuck, and all of whose waits take up to so
// many minutes.
func anyWork(r *rand.Rand, steps, waits, takes int) pan.Work {
	w := pan.Work{Steps: max(1+r.IntN(steps), 1+r.IntN(steps))}
	most := 1 + r.IntN(pan.MaxBack)
	for range max(r.IntN(waits+1), r.IntN(waits+1)) {
		a, b := r.IntN(takes+1), r.IntN(takes+1)
		back := r.IntN(most + 1)
		if r.IntN(3) == 0 {
			back = most
		}
		w.Waits = append(w.Waits, pan.Wait{From: r.IntN(w.Steps), To: r.IntN(w.Steps),
			Takes: span(min(a, b), max(a, b)), Back: back})
	}
	return w
}

// freeWork returns such a work that does not get stuck: without going back, steps wait in some order only.
func freeWork(r *rand.Rand, steps, waits, takes int) pan.Work {
	w := anyWork(r, steps, waits, takes)
	order := r.Perm(w.Steps)
	for n := range w.Waits {
		if wait := &w.Waits[n]; order[wait.From] >= order[wait.To] {
			wait.Back = max(1, wait.Back)
		}
	}
	return w
}

// manyWorks calls a test with works of all sizes that do not get stuck, always the same ones.
func manyWorks(seed uint64, test func(r *rand.Rand, w pan.Work)) {
	r := rand.New(rand.NewPCG(6, seed))
	sizes := [][3]int{{2, 5, 3}, {3, 8, 4}, {4, 12, 10}, {5, 20, 100}, {10, 20, pan.MaxTakes}, {10, pan.MaxWaits, 20},
		{10, pan.MaxWaits, pan.MaxTakes}}
	for n := range 1400 {
		size := sizes[n%len(sizes)]
		test(r, freeWork(r, size[0], size[1], size[2]))
	}
}

// smallWorks calls a test with many works so small that all of their timetables or truths can be looked at.
func smallWorks(seed uint64, number int, test func(r *rand.Rand, w pan.Work)) {
	r := rand.New(rand.NewPCG(6, seed))
	for range number {
		w := freeWork(r, 3, 5, 3)
		for n := range w.Waits {
			w.Waits[n].Back = min(2, w.Waits[n].Back)
		}
		test(r, w)
	}
}

// clone returns the same work in other memory.
func clone(w pan.Work) pan.Work {
	w.Waits = slices.Clone(w.Waits)
	return w
}

// mustPace returns the pace of a work that does not get stuck.
func mustPace(t *testing.T, w pan.Work) pan.Period {
	t.Helper()
	p, e := pan.Pace(w)
	if e != api.OK || p.Den < 1 {
		t.Fatalf("Pace of %v = %v %d", w, p, e)
	}
	return p
}

func mustTable(t *testing.T, w pan.Work) []int {
	t.Helper()
	table, e := pan.Table(w)
	if e != api.OK || len(table) != w.Steps {
		t.Fatalf("Table of %v = %v %d", w, table, e)
	}
	return table
}

func mustRun(t *testing.T, w pan.Work, strikes int) [][]api.Span {
	t.Helper()
	runs, e := pan.Runs(w, strikes)
	if e != api.OK || len(runs) != strikes {
		t.Fatalf("Runs of %v, %d strikes = %v %d", w, strikes, runs, e)
	}
	return runs
}
