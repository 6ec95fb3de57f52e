package rail_test

import (
	"iter"
	"math/rand/v2"
	"slices"
	"testing"

	"zafra/api"
	"zafra/rail"
)

const (
	lowest  = -1 << 63
	highest = 1<<63 - 1
)

func list(l ...int) []int { return l }

// trains returns trains: two numbers for each.
func trains(l ...int) []rail.Train {
	var t []rail.Train
	for pair := range slices.Chunk(l, 2) {
		t = append(t, rail.Train{At: pair[0], To: pair[1]})
	}
	return t
}

// chapterLine is L of the chapter's examples, and the others are its states.
func chapterLine() rail.Line { return rail.Line{1, 1, 1, 2, 1, 1, 1} }

func stateS() []rail.Train { return trains(0, 6, 6, 0) }

func stateW() []rail.Train { return trains(3, 6, 5, 0) }

func stateT() []rail.Train { return trains(2, 5, 4, 1, 3, 0) }

func stateV() []rail.Train { return trains(2, 6, 4, 0, 3, 0, 3, 6) }

// repeat returns a number so often.
func repeat(n, times int) []int { return slices.Repeat(list(n), times) }

// count returns how many trains on the way are at a section.
func count(t []rail.Train, section int) int {
	n := 0
	for _, train := range t {
		if train.At == section && train.To != section {
			n++
		}
	}
	return n
}

// fits returns whether no section has more trains on the way than have room.
func fits(l rail.Line, t []rail.Train) bool {
	for section, room := range l {
		if count(t, section) > room {
			return false
		}
	}
	return true
}

// toGo returns how many sections all trains together have to go.
func toGo(t []rail.Train) int {
	n := 0
	for _, train := range t {
		n += max(train.At-train.To, train.To-train.At)
	}
	return n
}

// moved returns the state after a move, possible or not, of a train on the way.
func moved(t []rail.Train, train int) []rail.Train {
	t = slices.Clone(t)
	if t[train].To > t[train].At {
		t[train].At++
	} else {
		t[train].At--
	}
	return t
}

// canMove returns whether a train is on the way, and its move is possible. After a move that is not, a section has too
// many trains, for a train that arrives takes no room.
func canMove(l rail.Line, t []rail.Train, train int) bool {
	return t[train].At != t[train].To && fits(l, moved(t, train))
}

// numbersOf returns the numbers of the trains for which something holds.
func numbersOf(t []rail.Train, holds func(train int) bool) []int {
	var numbers []int
	for train := range t {
		if holds(train) {
			numbers = append(numbers, train)
		}
	}
	return numbers
}

func possibleMoves(l rail.Line, t []rail.Train) []int {
	return numbersOf(t, func(train int) bool { return canMove(l, t, train) })
}

// places is where the trains of a state are.
type places [rail.MaxTrains]int

func placesOf(t []rail.Train) places {
	var p places
	for n, train := range t {
		p[n] = train.At
	}
	return p
}

// reached returns all states to which moves lead, those after fewer moves first.
func reached(l rail.Line, t []rail.Train) [][]rail.Train {
	all := [][]rail.Train{t}
	seen := map[places]bool{placesOf(t): true}
	for n := 0; n < len(all); n++ {
		for _, train := range possibleMoves(l, all[n]) {
			after := moved(all[n], train)
			if !seen[placesOf(after)] {
				seen[placesOf(after)] = true
				all = append(all, after)
			}
		}
	}
	return all
}

// safety says of each state to which moves lead whether it is safe, beginning with those that have no more moves.
type safety map[places]bool

func safetyOf(l rail.Line, t []rail.Train) safety {
	safe := safety{}
	for _, s := range slices.Backward(reached(l, t)) {
		safe[placesOf(s)] = toGo(s) == 0 || len(safe.good(l, s)) > 0
	}
	return safe
}

func (safe safety) good(l rail.Line, t []rail.Train) []int {
	return numbersOf(t, func(train int) bool { return canMove(l, t, train) && safe[placesOf(moved(t, train))] })
}

// plans ranges over all plans that cannot be continued, with the states to which they lead; each is of use until the
// next one.
func plans(l rail.Line, t []rail.Train) iter.Seq2[[]int, []rail.Train] {
	return func(yield func([]int, []rail.Train) bool) { longer(l, t, nil, yield) }
}

// longer yields the plans that begin with some moves, and returns whether more are wanted.
func longer(l rail.Line, t []rail.Train, moves []int, yield func([]int, []rail.Train) bool) bool {
	possible := possibleMoves(l, t)
	if len(possible) == 0 {
		return yield(moves, t)
	}
	for _, train := range possible {
		if !longer(l, moved(t, train), append(moves, train), yield) {
			return false
		}
	}
	return true
}

// arriving returns whether some plan lets all trains arrive.
func arriving(l rail.Line, t []rail.Train) bool {
	for _, end := range plans(l, t) {
		if toGo(end) == 0 {
			return true
		}
	}
	return false
}

// lists ranges over all lists of so many numbers from least to most; each is of use until the next one.
func lists(length, least, most int) iter.Seq[[]int] {
	return func(yield func([]int) bool) {
		l := slices.Repeat(list(least), length)
		for yield(l) {
			n := 0
			for n < length && l[n] == most {
				l[n] = least
				n++
			}
			if n == length {
				return
			}
			l[n]++
		}
	}
}

// states ranges over all states of so many trains, each of which is one of some trains.
func states(kinds []rail.Train, n int) iter.Seq[[]rail.Train] {
	return func(yield func([]rail.Train) bool) {
		for l := range lists(n, 0, len(kinds)-1) {
			t := make([]rail.Train, n)
			for i, kind := range l {
				t[i] = kinds[kind]
			}
			if !yield(t) {
				return
			}
		}
	}
}

// allTrains returns all trains on the way on a line.
func allTrains(sections int) []rail.Train {
	var t []rail.Train
	for l := range lists(2, 0, sections-1) {
		if l[0] != l[1] {
			t = append(t, trains(l...)...)
		}
	}
	return t
}

// throughTrains returns all trains that are within a line and go to its ends, so that they cannot avoid each other.
func throughTrains(sections int) []rail.Train {
	var t []rail.Train
	for at := 1; at < sections-1; at++ {
		t = append(t, trains(at, 0, at, sections-1)...)
	}
	return t
}

// smallStates calls a test with all states of up to 3 trains on the way on lines of up to 4 sections with the rooms 1
// and 2, and with those of through trains on lines of up to 6 sections.
func smallStates(test func(l rail.Line, t []rail.Train)) {
	for sections := 1; sections <= 6; sections++ {
		kinds := allTrains(sections)
		if sections > 4 {
			kinds = throughTrains(sections)
		}
		for l := range lists(sections, 1, 2) {
			if sections > 4 && l[0]+l[sections-1] > 2 {
				continue // Rooms of the ends do not matter to through trains.
			}
			for n := range min(4, 3*len(kinds)+1) {
				for t := range states(kinds, n) {
					if fits(l, t) {
						test(l, t)
					}
				}
			}
		}
	}
}

// anyLine returns a line in which little room is more frequent.
func anyLine(r *rand.Rand) rail.Line {
	rooms := [][]int{list(1), list(1, 1, 1, 1, 2), list(1, 1, 1, 2), list(1, 1, 3), list(1, 2, 3, 4, 5)}[r.IntN(5)]
	l := make(rail.Line, 1+r.IntN(rail.MaxSections))
	if r.IntN(4) > 0 {
		l = make(rail.Line, rail.MaxSections-r.IntN(3))
	}
	for section := range l {
		l[section] = rooms[r.IntN(len(rooms))]
	}
	return l
}

// anyState returns up to so many trains that fit on a line. In most states they go to its ends, and so cannot avoid each
// other.
func anyState(r *rand.Rand, l rail.Line, most int) []rail.Train {
	t := make([]rail.Train, max(r.IntN(most+1), r.IntN(most+1)))
	toEnds := r.IntN(5) > 0
	for {
		for n := range t {
			t[n] = rail.Train{At: r.IntN(len(l)), To: r.IntN(len(l))}
			if toEnds {
				t[n].To = r.IntN(2) * (len(l) - 1)
			}
		}
		if fits(l, t) {
			return t
		}
	}
}

// manyStates calls a test with states of up to so many trains, always the same ones.
func manyStates(seed uint64, most int, test func(r *rand.Rand, l rail.Line, t []rail.Train)) {
	r := rand.New(rand.NewPCG(5, seed))
	for range 2500 {
		l := anyLine(r)
		test(r, l, anyState(r, l, most))
	}
}

// said is what is said of a state.
type said struct {
	safe, stuck    bool
	possible, good []int
}

func say(tt *testing.T, l rail.Line, t []rail.Train) said {
	tt.Helper()
	safe, e1 := rail.Safe(l, t)
	stuck, e2 := rail.Stuck(l, t)
	possible, e3 := rail.Possible(l, t)
	good, e4 := rail.Good(l, t)
	if e1 != api.OK || e2 != api.OK || e3 != api.OK || e4 != api.OK {
		tt.Fatalf("%v, %v: errors %d %d %d %d", l, t, e1, e2, e3, e4)
	}
	return said{safe, stuck, possible, good}
}

func (s said) equals(other said) bool {
	return s.safe == other.safe && s.stuck == other.stuck &&
		slices.Equal(s.possible, other.possible) && slices.Equal(s.good, other.good)
}
