package ripe_test

import (
	"math/rand/v2"
	"slices"
	"testing"

	"zafra/api"
	"zafra/ripe"
)

// TestP2_6_Truth: the answers hold in the truth that samples were taken of (G1).
func TestP2_6_Truth(t *testing.T) {
	r := rand.New(rand.NewPCG(6, 1))
	for i := range 500 {
		mostWeeks := 8
		if i%10 == 0 {
			mostWeeks = ripe.MaxWeeks
		}
		f, truth := trueField(r, mostWeeks)
		known, e := ripe.Known(f)
		if e != api.OK || len(known) != f.Weeks {
			t.Fatalf("Known of %v = %v %d", f, known, e)
		}
		peaks, _ := ripe.Peaks(f)
		all := regrets(f)
		least := truth[r.IntN(f.Weeks)]/part + r.IntN(3) - 1
		surely, perhaps, _ := ripe.Ripe(f, least)
		cut, regret, _ := ripe.Cut(f)
		most := slices.Max(truth)
		for week, sweet := range truth {
			if sweet < known[week].Lo*part || sweet > known[week].Hi*part {
				t.Fatalf("Known of %v: %v, in truth %v", f, known, truth)
			}
			if sweet == most && !slices.Contains(peaks, week) {
				t.Fatalf("Peaks of %v: %v, in truth %v", f, peaks, truth)
			}
			if most-sweet > all[week]*part || week == cut && most-sweet > regret*part {
				t.Fatalf("regrets of %v: %v, Cut %d %d, in truth %v", f, all, cut, regret, truth)
			}
			is := sweet >= least*part
			if is && !slices.Contains(perhaps, week) || !is && slices.Contains(surely, week) {
				t.Fatalf("Ripe of %v, %d: %v %v, in truth %v", f, least, surely, perhaps, truth)
			}
		}
	}
}

// holdAgainst holds all answers against the program of a field.
func holdAgainst(t *testing.T, f ripe.Field, p program) {
	known, _ := ripe.Known(f)
	all := regrets(f)
	var peaks []int
	for week := range f.Weeks {
		most, _ := p.best(week, 1)
		if want := span(down(p.leastOf(week)), up(most)); known[week] != want {
			t.Fatalf("Known of %v, week %d = %v, want %v", f, week, known[week], want)
		}
		if want := up(p.regret(week)); all[week] != want {
			t.Fatalf("Regret of %v, week %d = %d, want %d", f, week, all[week], want)
		}
		if p.peak(week) {
			peaks = append(peaks, week)
		}
	}
	if l, e := ripe.Peaks(f); !slices.Equal(l, peaks) || e != api.OK {
		t.Fatalf("Peaks of %v = %v %d, want %v", f, l, e, peaks)
	}
	for least := f.Range.Lo - 1; least <= f.Range.Hi+1; least += 1 + f.Range.Hi/20 {
		var surely, perhaps []int
		for week := range f.Weeks {
			if most, _ := p.best(week, 1); down(most) >= least {
				perhaps = append(perhaps, week)
			}
			if down(p.leastOf(week)) >= least {
				surely = append(surely, week)
			}
		}
		s, l, e := ripe.Ripe(f, least)
		if !slices.Equal(s, surely) || !slices.Equal(l, perhaps) || e != api.OK {
			t.Fatalf("Ripe of %v, %d = %v %v %d, want %v %v", f, least, s, l, e, surely, perhaps)
		}
	}
}

// TestP2_7_Exact: the answers are just those of all truths (G3).
func TestP2_7_Exact(t *testing.T) {
	tried := 0
	test := func(f ripe.Field) {
		if possible(f) {
			holdAgainst(t, f, programOf(f))
			tried++
		}
	}
	manyFields(250, 6, test)
	manyFields(20, 12, test)
	manyFields(50, 8, func(f ripe.Field) {
		most := max(1, f.Range.Hi)
		for _, s := range f.Samples {
			most = max(most, s.Value, s.Off)
		}
		test(changed(f, ripe.MaxSweet/most, 0))
	})
	if tried < 350 {
		t.Errorf("only %d fields were possible", tried)
	}
}

// TestP2_8_Clash: a field is possible just if no three weeks are a clash (G4).
func TestP2_8_Clash(t *testing.T) {
	clashing := 0
	manyFields(1000, 7, func(f ripe.Field) {
		_, is := programOf(f).best()
		weeks, e := ripe.Clash(f)
		if is != possible(f) || is != (e == api.ErrNone) || !is && (e != api.OK || ripe.Verify(f, weeks) != api.OK) {
			t.Fatalf("Clash of %v = %v %d, possible: %t", f, weeks, e, is)
		}
		proved := slices.ContainsFunc(triples(f.Weeks), func(l []int) bool { return ripe.Verify(f, l) == api.OK })
		if proved == is {
			t.Fatalf("a clash of %v holds: %t, possible: %t", f, proved, is)
		}
		if !is {
			clashing++
		}
	})
	if clashing < 200 {
		t.Errorf("only %d fields were not possible", clashing)
	}
}

// isRow reports whether weeks lie next to each other, in ascending order.
func isRow(weeks []int) bool {
	for i := range weeks {
		if weeks[i] != weeks[0]+i {
			return false
		}
	}
	return true
}

// TestP2_9_Ripe: what is surely ripe is perhaps ripe, and has no gaps, nor have peaks.
func TestP2_9_Ripe(t *testing.T) {
	gaps := 0
	manyFields(500, 12, func(f ripe.Field) {
		if !possible(f) {
			return
		}
		if l, _ := ripe.Peaks(f); len(l) == 0 || !isRow(l) {
			t.Fatalf("Peaks of %v = %v", f, l)
		}
		for least := f.Range.Lo; least <= f.Range.Hi; least += 1 + f.Range.Hi/50 {
			surely, perhaps, _ := ripe.Ripe(f, least)
			if !isRow(surely) {
				t.Fatalf("Ripe of %v, %d: surely %v", f, least, surely)
			}
			for _, week := range surely {
				if !slices.Contains(perhaps, week) {
					t.Fatalf("Ripe of %v, %d = %v %v", f, least, surely, perhaps)
				}
			}
			if !isRow(perhaps) {
				gaps++
			}
		}
	})
	if gaps == 0 { // the chapter's field, with weeks 1 and 3 at 1545, shows that there can be gaps
		t.Error("what is perhaps ripe never had a gap")
	}
}

// moreKnown returns fields of which more is known.
func moreKnown(r *rand.Rand, f ripe.Field) []ripe.Field {
	more, less, narrow := f, f, f
	more.Samples = append(slices.Clone(f.Samples), ripe.Sample{
		Week: r.IntN(f.Weeks), Value: r.IntN(f.Range.Hi + 1), Off: r.IntN(1 + f.Range.Hi/2)})
	less.Samples = slices.Clone(f.Samples)
	if i := r.IntN(1 + len(f.Samples)); i < len(f.Samples) {
		less.Samples[i].Off = r.IntN(1 + f.Samples[i].Off)
	}
	narrow.Range.Lo += r.IntN(4)
	narrow.Range.Hi = max(narrow.Range.Lo, f.Range.Hi-r.IntN(4))
	if narrow.Range.Hi > f.Range.Hi {
		narrow = f
	}
	return []ripe.Field{more, less, narrow}
}

// TestP2_10_BetterKnown: with more known, nothing becomes possible that was not (G1).
func TestP2_10_BetterKnown(t *testing.T) {
	r := rand.New(rand.NewPCG(10, 2))
	tried, narrower := 0, 0
	manyFields(600, 10, func(f ripe.Field) {
		for i, g := range moreKnown(r, f) {
			if !possible(g) {
				continue
			}
			tried++
			before, e := ripe.Known(f)
			after, _ := ripe.Known(g)
			if e != api.OK {
				t.Fatalf("%v is not possible, but %v is", f, g)
			}
			peaks, _ := ripe.Peaks(f)
			fewer, _ := ripe.Peaks(g)
			for _, week := range fewer {
				if !slices.Contains(peaks, week) {
					t.Fatalf("Peaks %d of %v = %v, of %v = %v", i, f, peaks, g, fewer)
				}
			}
			most, least := regrets(f), regrets(g)
			for week := range f.Weeks {
				wider := after[week].Lo < before[week].Lo || after[week].Hi > before[week].Hi
				if wider || least[week] > most[week] {
					t.Fatalf("%d: %v, %v, %v; then %v, %v, %v", i, f, before, most, g, after, least)
				}
			}
			if !slices.Equal(before, after) {
				narrower++
			}
		}
	})
	if tried < 1000 || narrower < 300 {
		t.Errorf("only %d fields were possible, %d of them narrower", tried, narrower)
	}
}

// turned returns a field with its weeks in the opposite order.
func turned(f ripe.Field) ripe.Field {
	g := field(f.Weeks, f.Range.Lo, f.Range.Hi)
	for _, s := range f.Samples {
		s.Week = f.Weeks - 1 - s.Week
		g.Samples = append(g.Samples, s)
	}
	return g
}

// back returns numbers of weeks in the opposite order.
func back(weeks int, l []int) []int {
	var turned []int
	for _, week := range slices.Backward(l) {
		turned = append(turned, weeks-1-week)
	}
	return turned
}

// TestP2_11_TurnedAround: if weeks come in the opposite order, answers do, too.
func TestP2_11_TurnedAround(t *testing.T) {
	manyFields(500, 9, func(f ripe.Field) {
		g := turned(f)
		known, e := ripe.Known(f)
		again, h := ripe.Known(g)
		slices.Reverse(again)
		if !slices.Equal(known, again) || e != h {
			t.Fatalf("Known of %v = %v %d, turned %v %d", f, known, e, again, h)
		}
		peaks, _ := ripe.Peaks(f)
		turnedPeaks, _ := ripe.Peaks(g)
		surely, perhaps, _ := ripe.Ripe(f, 6)
		turnedSurely, turnedPerhaps, _ := ripe.Ripe(g, 6)
		if !slices.Equal(back(f.Weeks, peaks), turnedPeaks) ||
			!slices.Equal(back(f.Weeks, surely), turnedSurely) || !slices.Equal(back(f.Weeks, perhaps), turnedPerhaps) {
			t.Fatalf("%v: %v %v %v, turned %v %v %v", f, peaks, surely, perhaps, turnedPeaks, turnedSurely, turnedPerhaps)
		}
		all, turnedAll := regrets(f), regrets(g)
		slices.Reverse(turnedAll)
		_, regret, _ := ripe.Cut(f)
		week, turnedRegret, _ := ripe.Cut(g)
		if !slices.Equal(all, turnedAll) || regret != turnedRegret || all[f.Weeks-1-week] != regret {
			t.Fatalf("%v: %v %d, turned %v %d", f, all, regret, turnedAll, turnedRegret)
		}
		weeks, e := ripe.Clash(f)
		_, h = ripe.Clash(g)
		if e != h || e == api.OK && ripe.Verify(g, back(f.Weeks, weeks)) != api.OK {
			t.Fatalf("Clash of %v = %v %d, turned %d", f, weeks, e, h)
		}
	})
}

// changed returns a field whose numbers are multiplied, and then have a number added.
func changed(f ripe.Field, times, more int) ripe.Field {
	g := field(f.Weeks, f.Range.Lo*times+more, f.Range.Hi*times+more)
	for _, s := range f.Samples {
		g.Samples = append(g.Samples, ripe.Sample{Week: s.Week, Value: s.Value*times + more, Off: s.Off * times})
	}
	return g
}

// TestP2_12_Scaled: multiplied fields have the same peaks and the same week to cut.
func TestP2_12_Scaled(t *testing.T) {
	r := rand.New(rand.NewPCG(12, 3))
	manyFields(500, 9, func(f ripe.Field) {
		times := 1 + r.IntN(9)
		g := changed(f, times, 0)
		if ripe.Check(g) != api.OK || !possible(f) {
			return
		}
		peaks, _ := ripe.Peaks(f)
		scaledPeaks, e := ripe.Peaks(g)
		week, regret, _ := ripe.Cut(f)
		scaledWeek, scaledRegret, _ := ripe.Cut(g)
		near := scaledRegret <= regret*times && scaledRegret > (regret-1)*times
		if e != api.OK || !slices.Equal(peaks, scaledPeaks) || week != scaledWeek || !near {
			t.Fatalf("%v: %v %d %d, %d times %v %d %d %d",
				f, peaks, week, regret, times, scaledPeaks, scaledWeek, scaledRegret, e)
		}
	})
}

// TestP2_12_Shifted: a number that is added is added to what is known, and to no regret.
func TestP2_12_Shifted(t *testing.T) {
	r := rand.New(rand.NewPCG(12, 4))
	manyFields(500, 9, func(f ripe.Field) {
		more := 1 + r.IntN(25000)
		g := changed(f, 1, more)
		if ripe.Check(g) != api.OK || !possible(f) {
			return
		}
		known, _ := ripe.Known(f)
		shifted, e := ripe.Known(g)
		for week := range known {
			known[week].Lo += more
			known[week].Hi += more
		}
		peaks, _ := ripe.Peaks(f)
		shiftedPeaks, _ := ripe.Peaks(g)
		week, regret, _ := ripe.Cut(f)
		shiftedWeek, shiftedRegret, _ := ripe.Cut(g)
		if e != api.OK || !slices.Equal(known, shifted) || !slices.Equal(peaks, shiftedPeaks) ||
			!slices.Equal(regrets(f), regrets(g)) || week != shiftedWeek || regret != shiftedRegret {
			t.Fatalf("%v and %d more: %v, want %v", f, more, shifted, known)
		}
	})
}
