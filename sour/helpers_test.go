package sour_test

import (
	"iter"
	"math/rand/v2"
	"slices"

	"zafra/api"
	"zafra/sour"
)

const (
	lowest  = -1 << 63
	highest = 1<<63 - 1
)

func list(l ...int) []int { return l }

func span(lo, hi int) api.Span { return api.Span{Lo: lo, Hi: hi} }

func point(n int) api.Span { return span(n, n) }

// kind returns a kind: two numbers for each step.
func kind(steps ...int) sour.Kind {
	var k sour.Kind
	for s := range slices.Chunk(steps, 2) {
		k = append(k, sour.Step{After: s[0], Sour: s[1]})
	}
	return k
}

// chapterLine is L of the chapter's examples.
func chapterLine() sour.Line {
	return sour.Line{
		Kinds: []sour.Kind{kind(0, 10, 600, 20, 900, 50, 1000, 90), kind(900, 10, 1800, 30)},
		Loads: []sour.Load{
			{Kind: 0, Age: point(300), Crush: span(100, 200)},
			{Kind: 1, Age: span(700, 800), Crush: point(200)},
			{Kind: 0, Age: span(500, 600), Crush: point(100)},
		},
		Tracks: [][]int{{0, 2}, {1}},
		Start:  span(0, 30),
	}
}

// changed returns L with a change.
func changed(change func(l *sour.Line)) sour.Line {
	l := chapterLine()
	change(&l)
	return l
}

// single returns the same loads on tracks of one load each: M, if it is given L.
func single(l sour.Line) sour.Line {
	l.Tracks = nil
	for load := range l.Loads {
		l.Tracks = append(l.Tracks, list(load))
	}
	return l
}

// fullLine is as much as can be, and as long as it can take.
func fullLine() sour.Line {
	var l sour.Line
	for k := range sour.MaxKinds {
		var full sour.Kind
		for i := range sour.MaxSteps {
			back := sour.MaxSteps - 1 - i
			full = append(full, sour.Step{After: sour.MaxMinutes - 10*back - k, Sour: sour.MaxSour - 10*back - k})
		}
		l.Kinds = append(l.Kinds, full)
	}
	for load := range sour.MaxLoads {
		l.Loads = append(l.Loads, sour.Load{
			Kind: load % sour.MaxKinds, Age: span(0, sour.MaxMinutes), Crush: span(1, sour.MaxCrush),
		})
	}
	l.Start = span(0, sour.MaxMinutes)
	return single(l)
}

// cloneLine returns the same line in other memory.
func cloneLine(l sour.Line) sour.Line {
	l.Kinds, l.Loads, l.Tracks = slices.Clone(l.Kinds), slices.Clone(l.Loads), slices.Clone(l.Tracks)
	for i, k := range l.Kinds {
		l.Kinds[i] = slices.Clone(k)
	}
	for i, track := range l.Tracks {
		l.Tracks[i] = slices.Clone(track)
	}
	return l
}

// anySpan returns a span of a number from least to most, and of up to width more numbers.
func anySpan(r *rand.Rand, least, most, width int) api.Span {
	lo := least + r.IntN(most-least+1)
	return span(lo, min(most, lo+r.IntN(width+1)))
}

// ascending returns so many numbers from least to most, or fewer, which ascend strictly.
func ascending(r *rand.Rand, n, least, most int) []int {
	l := make([]int, n)
	for i := range l {
		l[i] = least + r.IntN(most-least+1)
	}
	slices.Sort(l)
	return slices.Compact(l)
}

func anyKind(r *rand.Rand, lastAfter, mostSour int) sour.Kind {
	n := r.IntN(sour.MaxSteps + 1)
	afters, sours := ascending(r, n, 0, lastAfter), ascending(r, n, 1, mostSour)
	var k sour.Kind
	for i := range min(len(afters), len(sours)) {
		k = append(k, sour.Step{After: afters[i], Sour: sours[i]})
	}
	return k
}

// anyTracks puts loads on tracks.
func anyTracks(r *rand.Rand, loads int) [][]int {
	tracks := make([][]int, 1+r.IntN(loads+1))
	for _, load := range r.Perm(loads) {
		t := r.IntN(len(tracks))
		tracks[t] = append(tracks[t], load)
	}
	return slices.DeleteFunc(tracks, func(track []int) bool { return len(track) == 0 })
}

// bounds says how great the numbers of a line can be, and how wide its spans.
type bounds struct{ age, crush, start, width, sour int }

var (
	fewTruths  = bounds{age: 8, crush: 5, start: 4, width: 1, sour: 8}
	smallLines = bounds{age: 20, crush: 10, start: 10, width: 10, sour: 20}
	greatLines = bounds{age: 40000, crush: 10000, start: 30000, width: 10000, sour: 1000000}
	fewSours   = bounds{age: 30000, crush: 6000, start: 10000, width: 9000, sour: 10}
)

// anyLine returns a line in which all steps can be reached.
func anyLine(r *rand.Rand, loads int, b bounds) sour.Line {
	l := sour.Line{Tracks: anyTracks(r, loads), Start: anySpan(r, 0, b.start, b.width)}
	for range 1 + r.IntN(sour.MaxKinds) {
		l.Kinds = append(l.Kinds, anyKind(r, min(sour.MaxMinutes, b.age+b.start+loads*b.crush), b.sour))
	}
	for range loads {
		l.Loads = append(l.Loads, sour.Load{
			Kind: r.IntN(len(l.Kinds)), Age: anySpan(r, 0, b.age, b.width), Crush: anySpan(r, 1, b.crush, b.width),
		})
	}
	return l
}

// manyLines calls a test with lines of up to so many loads, always the same ones.
func manyLines(seed uint64, mostLoads int, test func(r *rand.Rand, l sour.Line)) {
	r := rand.New(rand.NewPCG(4, seed))
	for range 150 {
		for _, b := range []bounds{fewTruths, smallLines, greatLines, fewSours} {
			test(r, anyLine(r, r.IntN(mostLoads+1), b))
		}
	}
}

// anyOrder returns an order.
func anyOrder(r *rand.Rand, l sour.Line) []int {
	var order []int
	left := slices.Clone(l.Tracks)
	for len(left) > 0 {
		t := r.IntN(len(left))
		order = append(order, left[t][0])
		if left[t] = left[t][1:]; len(left[t]) == 0 {
			left = slices.Delete(left, t, t+1)
		}
	}
	return order
}

// standsBehind is the definition.
func standsBehind(l sour.Line, load, other int) bool {
	for _, track := range l.Tracks {
		if place := slices.Index(track, other); place >= 0 && slices.Contains(track[place+1:], load) {
			return true
		}
	}
	return false
}

// orders ranges over all orders, the first one first; each is of use until the next one.
func orders(l sour.Line) iter.Seq[[]int] {
	return func(yield func([]int) bool) { longer(l, nil, yield) }
}

// longer yields the orders that begin with some loads, and returns whether more are wanted.
func longer(l sour.Line, begin []int, yield func([]int) bool) bool {
	if len(begin) == len(l.Loads) {
		return yield(begin)
	}
	for load := range l.Loads {
		if canFollow(l, begin, load) && !longer(l, append(begin, load), yield) {
			return false
		}
	}
	return true
}

func canFollow(l sour.Line, begin []int, load int) bool {
	for other := range l.Loads {
		if !slices.Contains(begin, other) && standsBehind(l, load, other) {
			return false
		}
	}
	return !slices.Contains(begin, load)
}

// truth is a number of each span of a line.
type truth struct {
	start        int
	ages, crushs []int
}

// numbers ranges over all lists of a number of each span; each is of use until the next one.
func numbers(spans []api.Span) iter.Seq[[]int] {
	return func(yield func([]int) bool) {
		l := make([]int, len(spans))
		for i, s := range spans {
			l[i] = s.Lo
		}
		for yield(l) {
			i := 0
			for i < len(l) && l[i] == spans[i].Hi {
				l[i] = spans[i].Lo
				i++
			}
			if i == len(l) {
				return
			}
			l[i]++
		}
	}
}

// truths ranges over all truths; each is of use until the next one.
func truths(l sour.Line) iter.Seq[truth] {
	spans := []api.Span{l.Start}
	for _, load := range l.Loads {
		spans = append(spans, load.Age, load.Crush)
	}
	return func(yield func(truth) bool) {
		for all := range numbers(spans) {
			t := truth{start: all[0]}
			for pair := range slices.Chunk(all[1:], 2) {
				t.ages, t.crushs = append(t.ages, pair[0]), append(t.crushs, pair[1])
			}
			if !yield(t) {
				return
			}
		}
	}
}

// latest is the truth in which all is as late as it can be.
func latest(l sour.Line) truth {
	t := truth{start: l.Start.Hi}
	for _, load := range l.Loads {
		t.ages, t.crushs = append(t.ages, load.Age.Hi), append(t.crushs, load.Crush.Hi)
	}
	return t
}

func anyTruth(r *rand.Rand, l sour.Line) truth {
	within := func(s api.Span) int { return s.Lo + r.IntN(s.Hi-s.Lo+1) }
	t := truth{start: within(l.Start)}
	for _, load := range l.Loads {
		t.ages, t.crushs = append(t.ages, within(load.Age)), append(t.crushs, within(load.Crush))
	}
	return t
}

// sourOf is the definition of how sour a kind is.
func sourOf(k sour.Kind, minutes int) int {
	for _, step := range slices.Backward(k) {
		if step.After <= minutes {
			return step.Sour
		}
	}
	return 0
}

// crushIn returns the ends of all loads in a truth, and how sour they become.
func crushIn(l sour.Line, order []int, t truth) (ends, sours []int) {
	ends, sours = make([]int, len(order)), make([]int, len(order))
	for place, load := range order {
		ends[load] = t.start
		for _, before := range order[:place+1] {
			ends[load] += t.crushs[before]
		}
		sours[load] = sourOf(l.Kinds[l.Loads[load].Kind], t.ages[load]+ends[load])
	}
	return ends, sours
}

// greatest returns the greatest number of a list, or 0.
func greatest(l []int) int {
	most := 0
	for _, n := range l {
		most = max(most, n)
	}
	return most
}

// worstOf returns the worst of an order, if the mill begins so much later.
func worstOf(l sour.Line, order []int, later int) int {
	t := latest(l)
	t.start += later
	_, sours := crushIn(l, order, t)
	return greatest(sours)
}

// shown returns the greatest sourness that a set shows.
func shown(l sour.Line, set []int) int {
	end := l.Start.Hi
	for _, load := range set {
		end += l.Loads[load].Crush.Hi
	}
	least := highest
	for _, load := range set {
		behind := func(other int) bool { return standsBehind(l, other, load) }
		if !slices.ContainsFunc(set, behind) {
			least = min(least, sourOf(l.Kinds[l.Loads[load].Kind], l.Loads[load].Age.Hi+end))
		}
	}
	return least
}

// sets ranges over all sets of loads.
func sets(l sour.Line) iter.Seq[[]int] {
	return func(yield func([]int) bool) {
		for bits := 1; bits < 1<<len(l.Loads); bits++ {
			var set []int
			for load := range l.Loads {
				if bits>>load&1 == 1 {
					set = append(set, load)
				}
			}
			if !yield(set) {
				return
			}
		}
	}
}

// leastWorst returns how sour the loads that are left become at least. Whichever load is the last one, its end is the
// same, and so the one that is least sour then is the last.
func leastWorst(l sour.Line, begin []int) int {
	var left []int
	end := l.Start.Hi
	for load := range l.Loads {
		end += l.Loads[load].Crush.Hi
		if !slices.Contains(begin, load) {
			left = append(left, load)
		}
	}
	worst := 0
	for len(left) > 0 {
		last, least := -1, highest
		for _, load := range left {
			behind := func(other int) bool { return standsBehind(l, other, load) }
			n := sourOf(l.Kinds[l.Loads[load].Kind], l.Loads[load].Age.Hi+end)
			if n < least && !slices.ContainsFunc(left, behind) {
				last, least = load, n
			}
		}
		worst = max(worst, least)
		end -= l.Loads[last].Crush.Hi
		left = slices.DeleteFunc(left, func(load int) bool { return load == last })
	}
	return worst
}

// firstBest returns the best order, load by load, and its worst.
func firstBest(l sour.Line) ([]int, int) {
	worst := leastWorst(l, nil)
	var begin []int
	end := l.Start.Hi
	for len(begin) < len(l.Loads) {
		for load, x := range l.Loads {
			if !canFollow(l, begin, load) {
				continue
			}
			own := sourOf(l.Kinds[x.Kind], x.Age.Hi+end+x.Crush.Hi)
			if own <= worst && leastWorst(l, append(slices.Clone(begin), load)) <= worst {
				begin = append(begin, load)
				end += x.Crush.Hi
				break
			}
		}
	}
	return begin, worst
}
