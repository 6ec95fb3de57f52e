package bulk_test

import (
	"math/rand/v2"
	"reflect"
	"slices"
	"testing"

	"zafra/api"
	"zafra/bulk"
)

// results calls each function, and returns all results.
func results(p bulk.Plant, set []int, number int, m bulk.Masses, balance []bulk.Masses) []any {
	partOf, e1 := bulk.Parts(p)
	sum, e2 := bulk.Excess(p, set)
	l, e3 := bulk.Close(p)
	filled, e4 := bulk.Fill(p, number, m)
	unit, e5 := bulk.Verify(p, balance)
	proof, kind, e6 := bulk.Prove(p)
	e7 := bulk.Refutes(p, set, number)
	return []any{bulk.Check(p), partOf, e1, sum, e2, l, e3, filled, e4, unit, e5, proof, kind, e6, e7}
}

// oddNumber returns numbers that are often not as stated, or just so.
func oddNumber(r *rand.Rand) int {
	odd := []int{-1 << 63, 1<<63 - 1, -2, -1, 0, 1, 2, 7, 8, 9, api.MaxMass, api.MaxMass + 1, -api.MaxMass,
		bulk.MaxSum, -bulk.MaxSum, bulk.MaxSum + 1, -bulk.MaxSum - 1}
	return odd[r.IntN(len(odd))]
}

func oddMasses(r *rand.Rand) bulk.Masses {
	return masses(oddNumber(r), oddNumber(r), r.IntN(9), r.IntN(9))
}

// oddPlant returns a plant that may have any error.
func oddPlant(r *rand.Rand) bulk.Plant {
	p := anyPlant(r)
	switch r.IntN(4) {
	case 0:
		p.Units = oddNumber(r)
	case 1:
		p.Flows = append(p.Flows, bulk.Flow{From: oddNumber(r), To: oddNumber(r), Measured: r.IntN(2) == 0, Mass: oddMasses(r)})
	case 2:
		p.Flows = append(p.Flows, make([]bulk.Flow, r.IntN(30))...)
	}
	return p
}

// TestP1_Ends: no function panics, arguments are not changed, and the same arguments have the same results (P1, R4).
func TestP1_Ends(t *testing.T) {
	r := rand.New(rand.NewPCG(1, 9))
	for range 3000 {
		p, m, number := oddPlant(r), oddMasses(r), oddNumber(r)
		set := make([]int, r.IntN(4))
		for i := range set {
			set[i] = oddNumber(r)
		}
		balance := make([]bulk.Masses, len(p.Flows)+r.IntN(2))
		for i := range balance {
			balance[i] = oddMasses(r)
		}
		flows, oldSet, oldBalance := slices.Clone(p.Flows), slices.Clone(set), slices.Clone(balance)
		first := results(p, set, number, m, balance)
		if !slices.Equal(flows, p.Flows) || !slices.Equal(oldSet, set) || !slices.Equal(oldBalance, balance) {
			t.Fatalf("arguments were changed: %v %v %v", p, set, balance)
		}
		if second := results(p, set, number, m, balance); !reflect.DeepEqual(first, second) {
			t.Fatalf("%v and then %v", first, second)
		}
	}
}

// TestP1_LongLists: lists that are far too long have their errors, too.
func TestP1_LongLists(t *testing.T) {
	long := make([]bulk.Flow, 100000)
	for i, e := range []api.Errno{bulk.Check(plant(8, long...)), bulk.Refutes(plant(8, long...), nil, 0)} {
		if e != api.ErrMany {
			t.Errorf("a plant with many flows, %d: %d", i, e)
		}
	}
	if m, e := bulk.Excess(chapterMill(), make([]int, 100000)); m != masses() || e != api.ErrOrder {
		t.Errorf("Excess of many units = %v %d", m, e)
	}
	if unit, e := bulk.Verify(chapterMill(), make([]bulk.Masses, 100000)); unit != 0 || e != api.ErrShape {
		t.Errorf("Verify of many masses = %d %d", unit, e)
	}
}

// TestR4_Results: a result that is changed changes no argument and no later result.
func TestR4_Results(t *testing.T) {
	p := openMill()
	partOf, _ := bulk.Parts(p)
	partOf[0] = 77
	l, _ := bulk.Close(p)
	l[0].Mass[0], l[3].State = 77, 77
	filled, _ := bulk.Fill(p, 3, masses())
	filled[0][0], filled[3][1] = 77, 77
	bad := clashMill()
	set, _, _ := bulk.Prove(bad)
	set[0] = 77
	if !reflect.DeepEqual(p, openMill()) || !reflect.DeepEqual(bad, clashMill()) {
		t.Error("a plant was changed")
	}
	again := results(p, units(0), 3, masses(), nil)
	if want := results(openMill(), units(0), 3, masses(), nil); !reflect.DeepEqual(again, want) {
		t.Errorf("%v, want %v", again, want)
	}
	if set, kind, e := bulk.Prove(bad); !slices.Equal(set, units(2)) || kind != 3 || e != api.OK {
		t.Errorf("Prove = %v %d %d", set, kind, e)
	}
}

// TestR3_Nil: an empty list and a nil one are the same.
func TestR3_Nil(t *testing.T) {
	a := results(bulk.Plant{Units: 2}, nil, 0, masses(), nil)
	b := results(bulk.Plant{Units: 2, Flows: []bulk.Flow{}}, []int{}, 0, masses(), []bulk.Masses{})
	if !reflect.DeepEqual(a, b) {
		t.Errorf("%v and %v", a, b)
	}
}

// TestExamples is the chapter's table.
func TestExamples(t *testing.T) {
	l, e := bulk.Close(openMill())
	if e != api.OK || l[1].State != bulk.Found || l[3] != known(bulk.Open) || l[4] != known(bulk.Open) || l[5] != known(bulk.Open) {
		t.Errorf("Close without the measurement of 3 = %v %d", l, e)
	}
	l, e = bulk.Close(chapterMill())
	for i, want := range map[int]bulk.Known{
		1: known(bulk.Found, 95, 450, 5, 12), 4: known(bulk.Found, 5, 410, 5, 6), 5: known(bulk.Found, 10, 39, 0, 5),
	} {
		if e != api.OK || l[i] != want {
			t.Errorf("Close, flow %d = %v %d", i, l[i], e)
		}
	}
	if partOf, e := bulk.Parts(chapterMill()); !slices.Equal(partOf, units(-1, -1, -1)) || e != api.OK {
		t.Errorf("Parts = %v %d", partOf, e)
	}
	if m, e := bulk.Excess(chapterMill(), units(0, 1)); m != masses(5, 410, 5, 6) || e != api.OK {
		t.Errorf("Excess = %v %d", m, e)
	}
	if filled, e := bulk.Fill(openMill(), 3, masses()); e != api.OK || filled[4] != masses(95, 450, 5, 12) || filled[5] != masses(-80, -1, 0, -1) {
		t.Errorf("Fill = %v %d", filled, e)
	}
	if _, e := bulk.Close(clashMill()); e != api.ErrClash {
		t.Errorf("Close with a wrong measurement = %d", e)
	}
	if e := bulk.Refutes(clashMill(), units(2), 3); e != api.OK {
		t.Errorf("Refutes = %d", e)
	}
}
