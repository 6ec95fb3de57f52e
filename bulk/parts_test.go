package bulk_test

import (
	"slices"
	"testing"

	"zafra/api"
	"zafra/bulk"
)

func TestP1_2_Parts(t *testing.T) {
	for i, x := range []struct {
		plant bulk.Plant
		want  []int
	}{
		{chapterMill(), units(-1, -1, -1)},
		{clashMill(), units(0, 1, 2)},
		{plant(1), units(0)},
		{plant(1, flow(0, bulk.Outside)), units(-1)},
		{plant(1, flow(bulk.Outside, 0)), units(-1)},
		{plant(1, seen(0, bulk.Outside)), units(0)},
		{plant(3, flow(2, 0)), units(0, 1, 0)},
		{plant(3, flow(2, 1), seen(0, 1)), units(0, 1, 1)},
		{plant(3, flow(0, bulk.Outside), flow(1, 2)), units(-1, 0, 0)},
		{plant(4, flow(0, 1), flow(2, 3), flow(1, 3)), units(0, 0, 0, 0)},
		{plant(4, flow(3, 1), flow(2, 0), flow(0, 2)), units(0, 1, 0, 1)},
		{plant(5, flow(4, 0), flow(3, 1), flow(1, bulk.Outside)), units(0, -1, 1, -1, 0)},
		{plant(8, flow(7, 6), flow(6, 5), flow(5, 4), flow(bulk.Outside, 4)), units(0, 1, 2, 3, -1, -1, -1, -1)},
		{plant(8, flow(7, 0), flow(1, 6), flow(5, 2), flow(3, 4)), units(0, 1, 2, 3, 3, 2, 1, 0)},
	} {
		if l, e := bulk.Parts(x.plant); !slices.Equal(l, x.want) || e != api.OK {
			t.Errorf("Parts of plant %d = %v %d, want %v", i, l, e, x.want)
		}
	}
}

func TestP1_2_PartsErrors(t *testing.T) {
	for i, x := range badPlants() {
		if l, e := bulk.Parts(x.plant); len(l) != 0 || e != x.want {
			t.Errorf("Parts of plant %d = %v %d, want %d", i, l, e, x.want)
		}
	}
}

// TestP1_2_PartsAny finds parts by spreading from each end until nothing changes.
func TestP1_2_PartsAny(t *testing.T) {
	manyPlants(500, func(p bulk.Plant) {
		least := make([]int, 1+p.Units)
		for end := range least {
			least[end] = end
		}
		for range least {
			for _, f := range p.Flows {
				if !f.Measured {
					both := min(least[f.From+1], least[f.To+1])
					least[f.From+1], least[f.To+1] = both, both
				}
			}
		}
		var want []int
		next := 0
		for end := 1; end <= p.Units; end++ {
			switch {
			case least[end] == 0:
				want = append(want, -1)
			case least[end] == end:
				want = append(want, next)
				next++
			default:
				want = append(want, want[least[end]-1])
			}
		}
		if l, e := bulk.Parts(p); !slices.Equal(l, want) || e != api.OK {
			t.Fatalf("Parts of %v = %v %d, want %v", p, l, e, want)
		}
	})
}

func TestP1_3_Excess(t *testing.T) {
	const most = api.MaxMass
	loud := plant(2)
	for range bulk.MaxFlows {
		loud.Flows = append(loud.Flows, seen(1, 0, most, 0, 1, most))
	}
	for i, x := range []struct {
		plant bulk.Plant
		set   []int
		want  bulk.Masses
	}{
		{chapterMill(), units(0), masses(95, 450, 5, 12)},
		{chapterMill(), units(1), masses(-90, -40, 0, -6)},
		{chapterMill(), units(2), masses(10, 39, 0, 5)},
		{chapterMill(), units(0, 1), masses(5, 410, 5, 6)},
		{openMill(), units(0, 1), masses(95, 450, 5, 12)},
		{chapterMill(), units(1, 2), masses(-80, -1, 0, -1)},
		{chapterMill(), units(0, 2), masses(105, 489, 5, 17)},
		{chapterMill(), units(0, 1, 2), masses(15, 449, 5, 11)},
		{plant(1), units(0), masses()},
		{plant(2, flow(0, 1), seen(0, 1, 1, 2, 3, 4)), units(1), masses(1, 2, 3, 4)},
		{plant(2, flow(0, 1), seen(0, 1, 1, 2, 3, 4)), units(0), masses(-1, -2, -3, -4)},
		{plant(2, flow(0, 1), seen(0, 1, 1, 2, 3, 4)), units(0, 1), masses()},
		{loud, units(0), masses(20*most, 0, 20, 20*most)},
		{loud, units(1), masses(-20*most, 0, -20, -20*most)},
	} {
		if m, e := bulk.Excess(x.plant, x.set); m != x.want || e != api.OK {
			t.Errorf("Excess %d = %v %d, want %v", i, m, e, x.want)
		}
	}
}

func TestP1_3_ExcessErrors(t *testing.T) {
	for _, x := range []struct {
		set  []int
		want api.Errno
	}{
		{nil, api.ErrEmpty},
		{units(), api.ErrEmpty},
		{units(3), api.ErrUnit},
		{units(-1), api.ErrUnit},
		{units(-1 << 63), api.ErrUnit},
		{units(0, 1, 1<<63-1), api.ErrUnit},
		{units(1, 0), api.ErrOrder},
		{units(1, 1), api.ErrOrder},
		{units(0, 2, 1), api.ErrOrder},
		{units(1, 1, 9), api.ErrOrder},
		{units(1, 9, 0), api.ErrUnit},
		{units(1, -1), api.ErrUnit},
	} {
		if m, e := bulk.Excess(chapterMill(), x.set); m != masses() || e != x.want {
			t.Errorf("Excess of %v = %v %d, want %d", x.set, m, e, x.want)
		}
	}
	for i, x := range badPlants() {
		for _, set := range [][]int{nil, units(0), units(-7)} {
			if m, e := bulk.Excess(x.plant, set); m != masses() || e != x.want {
				t.Errorf("Excess of plant %d = %v %d, want %d", i, m, e, x.want)
			}
		}
	}
}

func TestP1_3_ExcessAny(t *testing.T) {
	manyPlants(100, func(p bulk.Plant) {
		for _, set := range sets(p.Units) {
			want := net(p, set, func(i int) (bulk.Masses, bool) { return p.Flows[i].Mass, p.Flows[i].Measured })
			if m, e := bulk.Excess(p, set); m != want || e != api.OK {
				t.Fatalf("Excess of %v in %v = %v %d, want %v", set, p, m, e, want)
			}
		}
	})
}
