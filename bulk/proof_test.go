package bulk_test

import (
	"slices"
	"testing"

	"zafra/api"
	"zafra/bulk"
)

// longMill has two parts of two units; only the second part proves anything.
func longMill() bulk.Plant {
	return plant(4, flow(0, 1), flow(2, 3), seen(bulk.Outside, 0, 9), seen(1, 2, 9), seen(3, bulk.Outside, 9, 1))
}

func TestP1_6_Prove(t *testing.T) {
	for i, x := range []struct {
		plant bulk.Plant
		set   []int
		kind  int
	}{
		// In these there is just one part that proves it, with one kind.
		{clashMill(), units(2), 3},
		{longMill(), units(2, 3), 1},
		{plant(1, seen(bulk.Outside, 0, 0, 0, 1)), units(0), 2},
		{plant(3, flow(1, bulk.Outside), flow(0, 2), seen(2, bulk.Outside, 4)), units(0, 2), 0},
	} {
		if set, kind, e := bulk.Prove(x.plant); !slices.Equal(set, x.set) || kind != x.kind || e != api.OK {
			t.Errorf("Prove %d = %v %d %d, want %v %d", i, set, kind, e, x.set, x.kind)
		}
	}
}

func TestP1_6_ProveErrors(t *testing.T) {
	for i, p := range []bulk.Plant{chapterMill(), openMill(), plant(1), plant(2, seen(0, 1, 3), seen(1, 0, 3))} {
		if set, kind, e := bulk.Prove(p); len(set) != 0 || kind != 0 || e != api.ErrNone {
			t.Errorf("Prove of plant %d = %v %d %d, want %d", i, set, kind, e, api.ErrNone)
		}
	}
	for i, x := range badPlants() {
		if set, kind, e := bulk.Prove(x.plant); len(set) != 0 || kind != 0 || e != x.want {
			t.Errorf("Prove of plant %d = %v %d %d, want %d", i, set, kind, e, x.want)
		}
	}
}

func TestP1_6_Refutes(t *testing.T) {
	for i, x := range []struct {
		plant bulk.Plant
		set   []int
		kind  int
		want  api.Errno
	}{
		{clashMill(), units(2), 3, api.OK},
		{clashMill(), units(0, 2), 3, api.OK},
		{clashMill(), units(0, 1, 2), 3, api.OK},
		{clashMill(), units(2), 2, api.ErrProof},
		{clashMill(), units(1), 3, api.ErrProof},
		{longMill(), units(2, 3), 1, api.OK},
		{longMill(), units(0, 1, 2, 3), 1, api.OK},
		{longMill(), units(2, 3), 0, api.ErrProof},
		{longMill(), units(0, 1), 0, api.ErrProof},
		// An unmeasured flow goes out of the set, or comes to it.
		{longMill(), units(3), 1, api.ErrProof},
		{longMill(), units(2), 0, api.ErrProof},
		{longMill(), units(0, 2, 3), 1, api.ErrProof},
		{chapterMill(), units(0, 1, 2), 0, api.ErrProof},
		{plant(1, flow(bulk.Outside, 0), seen(bulk.Outside, 0, 1)), units(0), 0, api.ErrProof},
	} {
		if e := bulk.Refutes(x.plant, x.set, x.kind); e != x.want {
			t.Errorf("Refutes %d = %d, want %d", i, e, x.want)
		}
	}
}

func TestP1_6_RefutesErrors(t *testing.T) {
	for i, x := range []struct {
		set  []int
		kind int
		want api.Errno
	}{
		{units(2), 4, api.ErrKind},
		{units(2), -1, api.ErrKind},
		{units(1), 1<<63 - 1, api.ErrKind},
		{units(3), 9, api.ErrUnit},
		{units(-1), 9, api.ErrUnit},
		{nil, 9, api.ErrEmpty},
		{units(2, 1), -9, api.ErrOrder},
		{units(1, 1), 3, api.ErrOrder},
	} {
		if e := bulk.Refutes(clashMill(), x.set, x.kind); e != x.want {
			t.Errorf("Refutes %d = %d, want %d", i, e, x.want)
		}
	}
	for i, x := range badPlants() {
		if e := bulk.Refutes(x.plant, nil, 9); e != x.want {
			t.Errorf("Refutes of plant %d = %d, want %d", i, e, x.want)
		}
	}
}

// TestP1_6_RefutesAny tries all sets and kinds against the chapter's definition.
func TestP1_6_RefutesAny(t *testing.T) {
	manyPlants(100, func(p bulk.Plant) {
		for _, set := range sets(p.Units) {
			leaks := slices.ContainsFunc(p.Flows, func(f bulk.Flow) bool {
				return !f.Measured && slices.Contains(set, f.From) != slices.Contains(set, f.To)
			})
			sum := net(p, set, func(i int) (bulk.Masses, bool) { return p.Flows[i].Mass, p.Flows[i].Measured })
			for kind, n := range sum {
				want := api.OK
				if leaks || n == 0 {
					want = api.ErrProof
				}
				if e := bulk.Refutes(p, set, kind); e != want {
					t.Fatalf("Refutes of %v with %v and %d = %d, want %d", p, set, kind, e, want)
				}
			}
		}
	})
}
