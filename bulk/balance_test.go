package bulk_test

import (
	"slices"
	"testing"

	"zafra/api"
	"zafra/bulk"
)

func TestP1_4_Close(t *testing.T) {
	const out, most = bulk.Outside, api.MaxMass
	open := known(bulk.Open)
	for i, x := range []struct {
		plant bulk.Plant
		want  []bulk.Known
	}{
		{chapterMill(), []bulk.Known{
			known(bulk.Measured, 100, 600, 130, 20), known(bulk.Found, 95, 450, 5, 12),
			known(bulk.Measured, 5, 150, 125, 8), known(bulk.Measured, 90, 40, 0, 6),
			known(bulk.Found, 5, 410, 5, 6), known(bulk.Found, 10, 39, 0, 5), known(bulk.Measured, 80, 1, 0, 1)}},
		{openMill(), []bulk.Known{
			known(bulk.Measured, 100, 600, 130, 20), known(bulk.Found, 95, 450, 5, 12),
			known(bulk.Measured, 5, 150, 125, 8), open, open, open, known(bulk.Measured, 80, 1, 0, 1)}},
		{plant(1), nil},
		{plant(2, flow(0, 1)), []bulk.Known{known(bulk.Found)}},
		{plant(2, flow(0, 1), flow(0, 1)), []bulk.Known{open, open}},
		{plant(2, flow(0, 1), flow(1, 0)), []bulk.Known{open, open}},
		{plant(2, flow(0, 1), seen(1, 0, 7)), []bulk.Known{known(bulk.Found, 7), known(bulk.Measured, 7)}},
		{plant(2, flow(1, 0), seen(1, 0, 7)), []bulk.Known{known(bulk.Found, -7), known(bulk.Measured, 7)}},
		{plant(1, flow(0, out), seen(0, out, 7, 0, 1)),
			[]bulk.Known{known(bulk.Found, -7, 0, -1), known(bulk.Measured, 7, 0, 1)}},
		{plant(1, flow(out, 0), seen(0, out, 7, 0, 1)),
			[]bulk.Known{known(bulk.Found, 7, 0, 1), known(bulk.Measured, 7, 0, 1)}},
		// Outside joins two ends like a unit.
		{plant(2, flow(out, 0), flow(0, 1), flow(1, out)), []bulk.Known{open, open, open}},
		{plant(3, flow(out, 0), flow(1, 0), flow(2, 0)), []bulk.Known{known(bulk.Found), known(bulk.Found), known(bulk.Found)}},
		// A part that is closed by two measurements that agree.
		{plant(3, flow(0, 1), flow(1, 2), seen(out, 0, 9), seen(2, out, 9)),
			[]bulk.Known{known(bulk.Found, 9), known(bulk.Found, 9), known(bulk.Measured, 9), known(bulk.Measured, 9)}},
		// A found flow may be greater than any measured one.
		{plant(2, seen(out, 0, most), seen(out, 0, most), flow(0, 1), flow(1, out)),
			[]bulk.Known{known(bulk.Measured, most), known(bulk.Measured, most), known(bulk.Found, 2*most), known(bulk.Found, 2*most)}},
	} {
		if l, e := bulk.Close(x.plant); !slices.Equal(l, x.want) || e != api.OK {
			t.Errorf("Close of plant %d = %v %d, want %v", i, l, e, x.want)
		}
	}
}

func TestP1_4_CloseErrors(t *testing.T) {
	const out = bulk.Outside
	for i, p := range []bulk.Plant{
		clashMill(),
		plant(1, seen(0, out, 0, 0, 0, 1)),
		plant(2, flow(0, 1), seen(0, out, 7)),
		plant(3, flow(0, 1), flow(1, 2), seen(out, 0, 9), seen(2, out, 8)),
		plant(3, flow(0, out), seen(1, 2, 0, 1), seen(2, 1, 1, 0)),
	} {
		if l, e := bulk.Close(p); len(l) != 0 || e != api.ErrClash {
			t.Errorf("Close of plant %d = %v %d, want %d", i, l, e, api.ErrClash)
		}
	}
	for i, x := range badPlants() {
		if l, e := bulk.Close(x.plant); len(l) != 0 || e != x.want {
			t.Errorf("Close of plant %d = %v %d, want %d", i, l, e, x.want)
		}
	}
}

func TestP1_5_Fill(t *testing.T) {
	const out, most = bulk.Outside, api.MaxMass
	ring := plant(3, flow(0, 1), flow(1, 2), flow(2, 0))
	for i, x := range []struct {
		plant bulk.Plant
		flow  int
		mass  bulk.Masses
	}{
		{openMill(), 3, masses()},
		{openMill(), 3, masses(-5, 6, most, -most)},
		{openMill(), 4, masses(1, 2, 3, 4)},
		{openMill(), 5, masses(-most, -most, -most, -most)},
		{openMill(), 1, masses(95, 450, 5, 12)},
		{openMill(), 0, masses(100, 600, 130, 20)},
		{ring, 0, masses(4, -4)},
		{ring, 1, masses(4, -4)},
		{ring, 2, masses(most, most, most, most)},
		{plant(2, flow(0, 1), flow(0, 1), flow(1, 0)), 2, masses(0, 3)},
		{plant(2, flow(0, 1)), 0, masses()},
		{plant(1, flow(0, out), seen(0, out, most)), 0, masses(-most)},
	} {
		l, e := bulk.Fill(x.plant, x.flow, x.mass)
		if e != api.OK || !isBalance(x.plant, l) || l[x.flow] != x.mass {
			t.Errorf("Fill %d = %v %d", i, l, e)
		}
	}
	want := []bulk.Masses{{100, 600, 130, 20}, {95, 450, 5, 12}, {5, 150, 125, 8}, {}, {95, 450, 5, 12}, {-80, -1, 0, -1}, {80, 1, 0, 1}}
	if l, e := bulk.Fill(openMill(), 3, masses()); !slices.Equal(l, want) || e != api.OK {
		t.Errorf("Fill = %v %d, want %v", l, e, want)
	}
}

func TestP1_5_FillErrors(t *testing.T) {
	const out, most = bulk.Outside, api.MaxMass
	great := plant(2, seen(out, 0, most), seen(out, 0, 1), flow(0, 1), flow(1, out))
	for i, x := range []struct {
		plant bulk.Plant
		flow  int
		mass  bulk.Masses
		want  api.Errno
	}{
		{openMill(), 1, masses(95, 450, 5, 11), api.ErrDiff},
		{openMill(), 0, masses(), api.ErrDiff},
		{openMill(), 3, masses(most + 1), api.ErrDiff},
		{openMill(), 3, masses(0, 0, 0, -most-1), api.ErrDiff},
		{openMill(), 3, masses(0, 1<<63-1, -1<<63), api.ErrDiff},
		{great, 2, masses(most), api.ErrDiff},
		// It is found, with just these masses, which are too great to be asked for.
		{great, 2, masses(most + 1), api.ErrDiff},
		{openMill(), 7, masses(), api.ErrNone},
		{openMill(), -1, masses(most + 1), api.ErrNone},
		{openMill(), 1<<63 - 1, masses(), api.ErrNone},
		{plant(1), 0, masses(), api.ErrNone},
		{clashMill(), 9, masses(), api.ErrClash},
		{clashMill(), 0, masses(-1), api.ErrClash},
	} {
		if l, e := bulk.Fill(x.plant, x.flow, x.mass); len(l) != 0 || e != x.want {
			t.Errorf("Fill %d = %v %d, want %d", i, l, e, x.want)
		}
	}
	for i, x := range badPlants() {
		for _, flow := range []int{0, 99} {
			if l, e := bulk.Fill(x.plant, flow, masses(-most-1)); len(l) != 0 || e != x.want {
				t.Errorf("Fill of plant %d = %v %d, want %d", i, l, e, x.want)
			}
		}
	}
}

// TestP1_5_FillSums has as much as can be flow along as many units as can be.
func TestP1_5_FillSums(t *testing.T) {
	const most = api.MaxMass
	p := plant(bulk.MaxUnits)
	for unit := range bulk.MaxUnits - 1 {
		p.Flows = append(p.Flows, flow(unit, unit+1), flow(unit+1, unit))
	}
	for len(p.Flows) < bulk.MaxFlows {
		p.Flows = append(p.Flows, seen(bulk.Outside, len(p.Flows)%4, most, most, most, most))
	}
	p.Flows[19] = flow(bulk.Outside, 7)
	for i, f := range p.Flows {
		for _, m := range []bulk.Masses{masses(most, -most, 0, 1), masses(-most, -most, -most, -most)} {
			l, e := bulk.Fill(p, i, m)
			if f.Measured || i == 19 {
				if e != api.ErrDiff {
					t.Errorf("Fill of flow %d = %v %d", i, l, e)
				}
				continue
			}
			if e != api.OK || !isBalance(p, l) || l[i] != m {
				t.Errorf("Fill of flow %d = %v %d", i, l, e)
			}
			if _, e := bulk.Verify(p, l); e != api.OK {
				t.Errorf("Verify of Fill of flow %d = %d", i, e)
			}
		}
	}
}

// goodBalance is the balance of the chapter's M.
func goodBalance() []bulk.Masses {
	return []bulk.Masses{{100, 600, 130, 20}, {95, 450, 5, 12}, {5, 150, 125, 8}, {90, 40, 0, 6}, {5, 410, 5, 6}, {10, 39, 0, 5}, {80, 1, 0, 1}}
}

func TestP1_5_Verify(t *testing.T) {
	const most = bulk.MaxSum
	for i, x := range []struct {
		change func(l []bulk.Masses) []bulk.Masses
		unit   int
		want   api.Errno
	}{
		{func(l []bulk.Masses) []bulk.Masses { return l }, 0, api.OK},
		{func(l []bulk.Masses) []bulk.Masses { return nil }, 0, api.ErrShape},
		{func(l []bulk.Masses) []bulk.Masses { return l[:6] }, 0, api.ErrShape},
		{func(l []bulk.Masses) []bulk.Masses { return append(l, masses(most+1)) }, 0, api.ErrShape},
		{func(l []bulk.Masses) []bulk.Masses { l[5][0] = most + 1; return l }, 0, api.ErrRange},
		{func(l []bulk.Masses) []bulk.Masses { l[6][3] = -most - 1; return l }, 0, api.ErrRange},
		{func(l []bulk.Masses) []bulk.Masses { l[0][1], l[6][2] = 1, 1<<63-1; return l }, 0, api.ErrRange},
		{func(l []bulk.Masses) []bulk.Masses { l[0][3]++; return l }, 0, api.ErrDiff},
		{func(l []bulk.Masses) []bulk.Masses { l[6][0]--; l[1][0]++; return l }, 0, api.ErrDiff},
		{func(l []bulk.Masses) []bulk.Masses { l[1][2]++; return l }, 0, api.ErrSum},
		{func(l []bulk.Masses) []bulk.Masses { l[4][3]++; return l }, 1, api.ErrSum},
		{func(l []bulk.Masses) []bulk.Masses { l[4][0]--; l[5][0]++; return l }, 1, api.ErrSum},
		{func(l []bulk.Masses) []bulk.Masses { l[5][1]--; return l }, 2, api.ErrSum},
		{func(l []bulk.Masses) []bulk.Masses { l[5][0] = most; return l }, 2, api.ErrSum},
		{func(l []bulk.Masses) []bulk.Masses { l[5][0] = -most; return l }, 2, api.ErrSum},
	} {
		if unit, e := bulk.Verify(chapterMill(), x.change(goodBalance())); unit != x.unit || e != x.want {
			t.Errorf("Verify %d = %d %d, want %d %d", i, unit, e, x.unit, x.want)
		}
	}
	for i, x := range badPlants() {
		if unit, e := bulk.Verify(x.plant, make([]bulk.Masses, 1)); unit != 0 || e != x.want {
			t.Errorf("Verify of plant %d = %d %d, want %d", i, unit, e, x.want)
		}
	}
}

// TestP1_5_VerifyBounds has the greatest numbers go around.
func TestP1_5_VerifyBounds(t *testing.T) {
	const most = bulk.MaxSum
	ring := plant(2, flow(0, 1), flow(1, 0))
	for i, x := range []struct {
		mass bulk.Masses
		want api.Errno
	}{
		{masses(most, -most, most, -most), api.OK},
		{masses(0, 0, 0, most+1), api.ErrRange},
		{masses(-most - 1), api.ErrRange},
	} {
		if unit, e := bulk.Verify(ring, []bulk.Masses{x.mass, x.mass}); unit != 0 || e != x.want {
			t.Errorf("Verify %d = %d %d, want %d", i, unit, e, x.want)
		}
	}
	if unit, e := bulk.Verify(plant(1), nil); unit != 0 || e != api.OK {
		t.Errorf("Verify without flows = %d %d", unit, e)
	}
}

// TestP1_5_VerifyFirst changes one flow after the other, and expects the first of its units.
func TestP1_5_VerifyFirst(t *testing.T) {
	manyPlants(200, func(p bulk.Plant) {
		known, _ := bulk.Close(p)
		for i, f := range p.Flows {
			if known == nil {
				continue
			}
			l, e := bulk.Fill(p, i, known[i].Mass)
			if e == api.ErrDiff { // found, and too great to be asked for
				continue
			}
			if unit, e := bulk.Verify(p, l); unit != 0 || e != api.OK {
				t.Fatalf("Verify of %v = %d %d", p, unit, e)
			}
			first, want := min(f.From, f.To), api.ErrSum
			if first == bulk.Outside {
				first = max(f.From, f.To)
			}
			if f.Measured {
				first, want = 0, api.ErrDiff
			}
			l[i][i%4]++
			if unit, e := bulk.Verify(p, l); unit != first || e != want {
				t.Fatalf("Verify of %v with another flow %d = %d %d, want %d %d", p, i, unit, e, first, want)
			}
		}
	})
}
