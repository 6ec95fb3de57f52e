package pan_test

import (
	"math/rand/v2"
	"slices"
	"testing"

	"zafra/api"
	"zafra/pan"
)

// TestP6_6_Slowest: no cycle is slower than the pace, and the one that Hold returns is as slow (G4).
func TestP6_6_Slowest(t *testing.T) {
	slower, same := 0, 0
	manyWorks(20, func(_ *rand.Rand, w pan.Work) {
		pace := mustPace(t, w)
		for cycle := range cyclesOf(w) {
			p, e := pan.Holds(w, cycle)
			if e != api.OK || compare(p, pace) > 0 {
				t.Fatalf("Holds of %v, %v = %v %d, and the pace is %v", w, cycle, p, e, pace)
			}
			if compare(p, pace) < 0 {
				slower++
			}
		}
		if pace.Num == 0 {
			return
		}
		cycle, e := pan.Hold(w)
		p, f := pan.Holds(w, cycle)
		if e != api.OK || f != api.OK || p != pace {
			t.Fatalf("Hold of %v = %v %d, Holds = %v %d, and the pace is %v", w, cycle, e, p, f, pace)
		}
		same++
	})
	if min(slower, same) < 1000 {
		t.Errorf("%d cycles were faster, %d as slow", slower, same)
	}
}

// TestP6_6_Kept: a period can be kept just if it is at least the pace (G4).
func TestP6_6_Kept(t *testing.T) {
	found := map[bool]int{}
	manyWorks(21, func(r *rand.Rand, w pan.Work) {
		pace := mustPace(t, w)
		for _, p := range near(r, pace) {
			want := compare(p, pace) >= 0
			found[want]++
			if kept, e := pan.Kept(w, p); kept != want || e != api.OK {
				t.Fatalf("Kept of %v, %v = %v %d, and the pace is %v", w, p, kept, e, pace)
			}
		}
	})
	if min(found[true], found[false]) < 1000 {
		t.Errorf("found %v", found)
	}
}

// TestP6_6_Verify: the timetable is accepted for the pace and for each period above it, and for none below it (G4).
func TestP6_6_Verify(t *testing.T) {
	found := map[api.Errno]int{}
	manyWorks(22, func(r *rand.Rand, w pan.Work) {
		pace, table := mustPace(t, w), mustTable(t, w)
		if e := pan.Verify(w, pace, table); e != api.OK {
			t.Fatalf("Verify of %v, %v, %v = %d", w, pace, table, e)
		}
		for _, p := range near(r, pace) {
			// The same beginnings for the other Den, rounded up; for a multiple of the pace they are exact.
			var scaled []int
			for _, minute := range table {
				scaled = append(scaled, (minute*p.Den+pace.Den-1)/pace.Den)
			}
			e := pan.Verify(w, p, scaled)
			found[e]++
			below, exact := compare(p, pace) < 0, p.Den%pace.Den == 0
			if below && e != api.ErrProof || !below && exact && e != api.OK {
				t.Fatalf("Verify of %v, %v, %v = %d, and the pace is %v", w, p, scaled, e, pace)
			}
		}
	})
	if min(found[api.OK], found[api.ErrProof]) < 1000 {
		t.Errorf("found %v", found)
	}
}

// TestP6_6_NoTable: no timetable at all is accepted for a period below the pace (G4).
func TestP6_6_NoTable(t *testing.T) {
	below, accepted := 0, 0
	smallWorks(23, 500, func(r *rand.Rand, w pan.Work) {
		p := period(r.IntN(6), 1+r.IntN(2))
		is := compare(p, mustPace(t, w)) < 0
		if is {
			below++
		}
		for table := range lists(w.Steps, 0, 12) {
			e := pan.Verify(w, p, table)
			if is && e != api.ErrProof {
				t.Fatalf("Verify of %v, %v, %v = %d", w, p, table, e)
			}
			if e == api.OK {
				accepted++
			}
		}
	})
	if min(below, accepted) < 100 {
		t.Errorf("%d periods were below the pace, %d timetables were accepted", below, accepted)
	}
}

// TestP6_7_Kept: whatever is true, no step begins later than its timetable says (G7).
func TestP6_7_Kept(t *testing.T) {
	sharp, late := 0, 0
	manyWorks(24, func(r *rand.Rand, w pan.Work) {
		pace, table := mustPace(t, w), mustTable(t, w)
		strikes := 1 + r.IntN(40)
		isSharp, isLate := false, false
		for _, takes := range []truth{anyTruth(r, w, strikes), allMost(w)} {
			for strike, row := range beginnings(w, strikes, takes) {
				for step, minute := range row {
					if minute*pace.Den > table[step]+strike*pace.Num {
						t.Fatalf("%v: step %d of strike %d begins at %d, and the table is %v, the pace %v", w, step, strike, minute, table, pace)
					}
					isSharp = isSharp || strike > 9 && minute > 0 && minute*pace.Den == table[step]+strike*pace.Num
					isLate = isLate || strike > 9 && pace.Num > 0 && minute*pace.Den > table[step]+strike*(pace.Num-1)
				}
			}
		}
		if isSharp {
			sharp++
		}
		if isLate {
			late++
		}
	})
	if min(sharp, late) < 200 {
		t.Errorf("in %d works a step begins just when its timetable says, in %d it would be late with a lesser pace", sharp, late)
	}
}

// TestP6_8_Within: in each truth each step of each strike begins within Runs (G1).
func TestP6_8_Within(t *testing.T) {
	between := 0
	manyWorks(25, func(r *rand.Rand, w pan.Work) {
		strikes := 1 + r.IntN(12)
		runs := mustRun(t, w, strikes)
		for strike, row := range beginnings(w, strikes, anyTruth(r, w, strikes)) {
			for step, minute := range row {
				s := runs[strike][step]
				if minute < s.Lo || minute > s.Hi {
					t.Fatalf("%v: step %d of strike %d begins at %d, which is not within %v", w, step, strike, minute, s)
				}
				if minute > s.Lo && minute < s.Hi {
					between++
				}
			}
		}
	})
	if between < 1000 {
		t.Errorf("only %d beginnings were between the ends", between)
	}
}

// TestP6_8_Ends: both ends are so in some truth (G3); and with more strikes the first ones are the same.
func TestP6_8_Ends(t *testing.T) {
	manyWorks(26, func(r *rand.Rand, w pan.Work) {
		strikes := 1 + r.IntN(12)
		runs := mustRun(t, w, strikes)
		least, most := beginnings(w, strikes, allLeast(w)), beginnings(w, strikes, allMost(w))
		for strike, row := range runs {
			for step, s := range row {
				if s.Lo != least[strike][step] || s.Hi != most[strike][step] {
					t.Fatalf("%v: step %d of strike %d: %v", w, step, strike, s)
				}
			}
		}
		if more := mustRun(t, w, strikes+5); !sameRuns(more[:strikes], runs) {
			t.Fatalf("%v: %v, and with more strikes %v", w, runs, more)
		}
	})
}

// TestP6_9_LongRun: from strike to strike a step of a cycle begins as much later as the cycle takes.
func TestP6_9_LongRun(t *testing.T) {
	sharp, fractions := 0, 0
	manyWorks(27, func(_ *rand.Rand, w pan.Work) {
		const strikes = 50
		runs := mustRun(t, w, strikes)
		for cycle := range cyclesOf(w) {
			time, back := timeOf(w, cycle)
			for _, n := range cycle {
				step := w.Waits[n].From
				for after := back; after < strikes; after++ {
					times := 1 + after%(after/back)
					first, second := runs[after-times*back][step].Hi, runs[after][step].Hi
					if second-first < times*time {
						t.Fatalf("%v: step %d begins at %d and %d strikes later at %d, and %v takes %d minutes", w, step, first, times*back, second, cycle, time)
					}
					if second-first == times*time && time > 0 {
						sharp++
					}
				}
			}
			if back > 1 {
				fractions++
			}
		}
	})
	if min(sharp, fractions) < 1000 {
		t.Errorf("%d steps began no later, %d cycles had several strikes", sharp, fractions)
	}
}

// TestP6_9_Pace: in the long run no less time goes by from strike to strike than the pace, and no more.
func TestP6_9_Pace(t *testing.T) {
	manyWorks(28, func(_ *rand.Rand, w pan.Work) {
		pace := mustPace(t, w)
		cycle, e := pan.Hold(w)
		if e != api.OK {
			return
		}
		step := w.Waits[cycle[0]].From
		_, back := timeOf(w, cycle)
		runs := mustRun(t, w, pan.MaxStrikes)
		last := (pan.MaxStrikes - 1) / back * back
		least, most := runs[0][step].Hi*pace.Den+last*pace.Num, mustTable(t, w)[step]+last*pace.Num
		if minute := runs[last][step].Hi * pace.Den; minute < least || minute > most {
			t.Fatalf("%v: step %d of strike %d begins at %d, not from %d to %d", w, step, last, minute, least, most)
		}
	})
}

// TestP6_10_More: with a wait that takes longer, goes back less, or is new, the pace does not become less.
func TestP6_10_More(t *testing.T) {
	var more, same [3]int
	manyWorks(29, func(r *rand.Rand, w pan.Work) {
		pace := mustPace(t, w)
		for kind := range 3 {
			harder := clone(w)
			switch {
			case kind == 2:
				wait := pan.Wait{From: r.IntN(w.Steps), To: r.IntN(w.Steps), Takes: span(0, r.IntN(30)), Back: r.IntN(5)}
				harder.Waits = slices.Insert(harder.Waits, r.IntN(len(w.Waits)+1), wait)
			case len(w.Waits) == 0:
				continue
			case kind == 1:
				wait := &harder.Waits[r.IntN(len(w.Waits))]
				wait.Back = max(0, wait.Back-1-r.IntN(2))
			default:
				wait := &harder.Waits[r.IntN(len(w.Waits))]
				wait.Takes.Hi += r.IntN(pan.MaxTakes + 1 - wait.Takes.Hi)
			}
			p, e := pan.Pace(harder)
			if e != api.OK {
				continue // It gets stuck, or has too many waits.
			}
			switch c := compare(p, pace); {
			case c < 0:
				t.Fatalf("the pace of %v is %v, but that of %v is %v", w, pace, harder, p)
			case c > 0:
				more[kind]++
			default:
				same[kind]++
			}
		}
	})
	if min(slices.Min(more[:]), slices.Min(same[:])) < 50 {
		t.Errorf("the pace became greater %v times, and not %v times", more, same)
	}
}

// TestP6_10_Times: if all takes a number of times as long, so does the pace, and so do the timetable and the runs.
func TestP6_10_Times(t *testing.T) {
	fractions := 0
	manyWorks(30, func(r *rand.Rand, w pan.Work) {
		most := 1
		for _, wait := range w.Waits {
			most = max(most, wait.Takes.Hi)
		}
		times := r.IntN(min(20, pan.MaxTakes/most) + 1)
		longer := clone(w)
		for n := range longer.Waits {
			takes := &longer.Waits[n].Takes
			takes.Lo *= times
			takes.Hi *= times
		}
		a, b := mustPace(t, w), mustPace(t, longer)
		if b != lowestTerms(period(a.Num*times, a.Den)) {
			t.Fatalf("the pace of %v is %v, and that of %v is %v", w, a, longer, b)
		}
		if a.Den > 1 && times > 1 {
			fractions++
		}
		before, after := mustTable(t, w), mustTable(t, longer)
		for step := range before {
			if before[step]*times*b.Den != after[step]*a.Den {
				t.Fatalf("the table of %v is %v, and that of %v is %v", w, before, longer, after)
			}
		}
	})
	if fractions < 50 {
		t.Errorf("only %d paces were fractions", fractions)
	}
}

// TestP6_10_Backs: if all goes back twice as many strikes, the pace is half of what it was.
func TestP6_10_Backs(t *testing.T) {
	found := 0
	manyWorks(31, func(_ *rand.Rand, w pan.Work) {
		for n := range w.Waits {
			w.Waits[n].Back = (w.Waits[n].Back + 1) / 2
		}
		twice := clone(w)
		for n := range twice.Waits {
			twice.Waits[n].Back *= 2
		}
		a, b := mustPace(t, w), mustPace(t, twice)
		if b != lowestTerms(period(a.Num, 2*a.Den)) {
			t.Fatalf("the pace of %v is %v, and that of %v is %v", w, a, twice, b)
		}
		if a.Num > 0 {
			found++
		}
	})
	if found < 1000 {
		t.Errorf("only %d paces were above 0", found)
	}
}

// TestP6_11_Around: with From and To of all waits exchanged the pace is the same.
func TestP6_11_Around(t *testing.T) {
	manyWorks(32, func(_ *rand.Rand, w pan.Work) {
		around := clone(w)
		for n := range around.Waits {
			wait := &around.Waits[n]
			wait.From, wait.To = wait.To, wait.From
		}
		if a, b := mustPace(t, w), mustPace(t, around); a != b {
			t.Fatalf("the pace of %v is %v, and that of %v is %v", w, a, around, b)
		}
	})
}

// TestP6_11_Numbers: if steps have other numbers, and waits come in another order, the pace is the same, and the
// timetable and the runs have the other numbers, too.
func TestP6_11_Numbers(t *testing.T) {
	moved := 0
	manyWorks(33, func(r *rand.Rand, w pan.Work) {
		numbers := r.Perm(w.Steps)
		other := clone(w)
		for n := range other.Waits {
			wait := &other.Waits[n]
			wait.From, wait.To = numbers[wait.From], numbers[wait.To]
		}
		r.Shuffle(len(other.Waits), func(i, j int) { other.Waits[i], other.Waits[j] = other.Waits[j], other.Waits[i] })
		if a, b := mustPace(t, w), mustPace(t, other); a != b {
			t.Fatalf("the pace of %v is %v, and that of %v is %v", w, a, other, b)
		}
		const strikes = 8
		before, after := mustTable(t, w), mustTable(t, other)
		first, second := mustRun(t, w, strikes), mustRun(t, other, strikes)
		for step, number := range numbers {
			if before[step] != after[number] {
				t.Fatalf("the table of %v is %v, and that of %v is %v", w, before, other, after)
			}
			for strike := range strikes {
				if first[strike][step] != second[strike][number] {
					t.Fatalf("the runs of %v are %v, and those of %v are %v", w, first, other, second)
				}
			}
		}
		if !slices.Equal(before, after) {
			moved++
		}
	})
	if moved < 300 {
		t.Errorf("only %d timetables changed", moved)
	}
}
