package sour_test

import (
	"math/rand/v2"
	"slices"
	"testing"

	"zafra/api"
	"zafra/sour"
)

func TestP4_4_Prove(t *testing.T) {
	onTracks := func(tracks ...[]int) sour.Line { return changed(func(l *sour.Line) { l.Tracks = tracks }) }
	for i, l := range []sour.Line{
		chapterLine(), single(chapterLine()), onTracks(list(2, 1, 0)), onTracks(list(1, 0, 2)), fullLine(),
		due(nil, 15, 5, 15, 7, 15, 9), due([][]int{{0, 1}, {2}}, 100, 5, 11, 7, 15, 9), due(nil, 10, 5),
	} {
		_, worst := best(t, l)
		set, e := sour.Prove(l)
		if e != api.OK || len(set) == 0 || shown(l, set) < worst || sour.Verify(l, worst, set) != api.OK {
			t.Errorf("Prove %d = %v %d, it shows %d, the worst is %d", i, set, e, shown(l, set), worst)
		}
	}
	for i, l := range []sour.Line{
		{}, changed(func(l *sour.Line) { l.Kinds = make([]sour.Kind, 2) }), due(nil, 11, 5, 21, 7, 31, 9),
	} {
		if set, e := sour.Prove(l); len(set) != 0 || e != api.ErrNone {
			t.Errorf("Prove of fresh cane %d = %v %d", i, set, e)
		}
	}
}

func TestP4_4_Verify(t *testing.T) {
	l := chapterLine()
	row := due([][]int{{0, 1, 2}}, 100, 5, 100, 6, 20, 7)
	for i, x := range []struct {
		line sour.Line
		sour int
		set  []int
		want api.Errno
	}{
		{l, 50, list(0, 2), api.OK}, {l, 49, list(0, 2), api.OK}, {l, 1, list(0, 2), api.OK}, {l, 51, list(0, 2), api.ErrProof},
		{l, 10, list(0, 1, 2), api.OK}, {l, 11, list(0, 1, 2), api.ErrProof},
		{l, 20, list(2), api.OK}, {l, 21, list(2), api.ErrProof}, {l, 50, list(2), api.ErrProof},
		{l, 10, list(1), api.OK}, {l, 11, list(1), api.ErrProof}, {l, 10, list(0), api.OK}, {l, 11, list(0), api.ErrProof},
		{single(l), 20, list(2), api.OK}, {single(l), 10, list(0, 2), api.OK}, {single(l), 20, list(0, 2), api.OK},
		{single(l), 21, list(0, 2), api.ErrProof},
		{l, sour.MaxSour, list(0, 1, 2), api.ErrProof},
		// A load of the set stands behind another one, even if one between them is not in the set.
		{row, 7, list(0, 2), api.OK}, {row, 7, list(1, 2), api.OK}, {row, 7, list(0, 1, 2), api.OK},
		{row, 1, list(0, 1), api.ErrProof}, {row, 1, list(2), api.ErrProof}, {row, 8, list(0, 1, 2), api.ErrProof},
		{single(row), 7, list(0, 2), api.ErrProof},
	} {
		if e := sour.Verify(x.line, x.sour, x.set); e != x.want {
			t.Errorf("Verify %d = %d, want %d", i, e, x.want)
		}
	}
}

func TestP4_4_Errors(t *testing.T) {
	for i, x := range []struct {
		sour int
		set  []int
		want api.Errno
	}{
		{0, list(2), api.ErrRange}, {-1, list(2), api.ErrRange}, {sour.MaxSour + 1, list(2), api.ErrRange},
		{lowest, nil, api.ErrRange}, {highest, list(9), api.ErrRange},
		{1, nil, api.ErrEmpty}, {sour.MaxSour, list(), api.ErrEmpty},
		{1, list(3), api.ErrNone}, {1, list(-1), api.ErrNone}, {1, list(0, 2, 3), api.ErrNone}, {1, list(highest), api.ErrNone},
		{1, list(lowest), api.ErrNone}, {1, list(0, 64), api.ErrNone},
		{1, list(0, 0), api.ErrOrder}, {1, list(2, 1), api.ErrOrder}, {1, list(0, 2, 1), api.ErrOrder},
		{1, list(1, 2, 2), api.ErrOrder},
		// The first number decides, and of its errors the first one.
		{1, list(2, 1, 9), api.ErrOrder}, {1, list(2, 9, 1), api.ErrNone}, {1, list(2, -1), api.ErrNone},
		{51, list(2, 0), api.ErrOrder}, {51, list(0, 9), api.ErrNone},
	} {
		if e := sour.Verify(chapterLine(), x.sour, x.set); e != x.want {
			t.Errorf("Verify %d = %d, want %d", i, e, x.want)
		}
	}
	if e := sour.Verify(sour.Line{}, 1, list(0)); e != api.ErrNone {
		t.Errorf("Verify of no loads = %d", e)
	}
}

// TestP4_8_EachSet holds Verify against the definition, for all sets: none shows more than the worst of Best, and
// what Prove returns shows that (P4.4, P4.8).
func TestP4_8_EachSet(t *testing.T) {
	proofs, small := 0, 0
	manyLines(8, 7, func(r *rand.Rand, l sour.Line) {
		_, worst := best(t, l)
		for set := range sets(l) {
			most := shown(l, set)
			if most > worst {
				t.Fatalf("the set %v of %v shows %d, the worst of Best is %d", set, l, most, worst)
			}
			for _, n := range list(1, most-1, most, most+1, worst, worst+1, 1+r.IntN(sour.MaxSour)) {
				if n < 1 || n > sour.MaxSour {
					continue
				}
				if e := sour.Verify(l, n, set); (e == api.OK) != (n <= most) || e != api.OK && e != api.ErrProof {
					t.Fatalf("Verify of %v, %d and %v = %d, it shows %d", l, n, set, e, most)
				}
			}
		}
		set, e := sour.Prove(l)
		if worst == 0 {
			if e != api.ErrNone || len(set) != 0 {
				t.Fatalf("Prove of %v = %v %d, but the worst is 0", l, set, e)
			}
			return
		}
		if e != api.OK || !slices.IsSorted(set) || shown(l, set) != worst || sour.Verify(l, worst, set) != api.OK {
			t.Fatalf("Prove of %v = %v %d, the worst is %d", l, set, e, worst)
		}
		proofs++
		if len(set) < len(l.Loads) {
			small++
		}
	})
	if proofs < 200 || small < 50 {
		t.Errorf("%d proofs, %d of them without some load", proofs, small)
	}
}

// TestP4_8_ManyLoads has proofs of more loads.
func TestP4_8_ManyLoads(t *testing.T) {
	manyLines(88, sour.MaxLoads, func(r *rand.Rand, l sour.Line) {
		_, worst := best(t, l)
		if worst == 0 {
			return
		}
		set, e := sour.Prove(l)
		if e != api.OK || shown(l, set) != worst || sour.Verify(l, worst, set) != api.OK {
			t.Fatalf("Prove of %v = %v %d, the worst is %d", l, set, e, worst)
		}
		if worst < sour.MaxSour && sour.Verify(l, worst+1, set) != api.ErrProof {
			t.Fatalf("%v shows more than %d for %v", set, worst, l)
		}
	})
}

// TestP4_8_EachOrder: whatever is accepted as a proof, in each order some load of the set becomes at least so sour.
func TestP4_8_EachOrder(t *testing.T) {
	shows := 0
	manyLines(80, 4, func(r *rand.Rand, l sour.Line) {
		for set := range sets(l) {
			n := 1 + r.IntN(max(1, min(20, leastWorst(l, nil))))
			if sour.Verify(l, n, set) != api.OK {
				continue
			}
			shows++
			for order := range orders(l) {
				_, sours := crushIn(l, order, latest(l))
				if !slices.ContainsFunc(set, func(load int) bool { return sours[load] >= n }) {
					t.Fatalf("Verify of %v, %d and %v is OK, but not so in the order %v", l, n, set, order)
				}
			}
		}
	})
	if shows < 500 {
		t.Errorf("only %d sets show something", shows)
	}
}
