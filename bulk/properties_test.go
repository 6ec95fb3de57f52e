package bulk_test

import (
	"math/rand/v2"
	"slices"
	"testing"

	"zafra/api"
	"zafra/bulk"
)

// TestP1_7_True: what is known holds in the truth that a plant was made of (G1).
func TestP1_7_True(t *testing.T) {
	r := rand.New(rand.NewPCG(7, 1))
	for range 300 {
		p, truth := truePlant(r)
		if !isBalance(p, truth) {
			t.Fatalf("%v is no balance of %v", truth, p)
		}
		l, e := bulk.Close(p)
		if e != api.OK || len(l) != len(p.Flows) {
			t.Fatalf("Close of %v = %v %d", p, l, e)
		}
		for i, k := range l {
			if k.State == bulk.Open && k.Mass != masses() || k.State != bulk.Open && k.Mass != truth[i] {
				t.Fatalf("Close of %v: flow %d is %v, in truth %v", p, i, k, truth[i])
			}
		}
		for _, set := range sets(p.Units) {
			for kind := range 4 {
				if e := bulk.Refutes(p, set, kind); e != api.ErrProof {
					t.Fatalf("Refutes of %v with %v and %d = %d", p, set, kind, e)
				}
			}
		}
		if set, kind, e := bulk.Prove(p); len(set) != 0 || kind != 0 || e != api.ErrNone {
			t.Fatalf("Prove of %v = %v %d %d", p, set, kind, e)
		}
	}
}

// TestP1_8_Exact: just those flows are found that the equations determine (G3).
func TestP1_8_Exact(t *testing.T) {
	states := map[int]int{}
	manyPlants(2000, func(p bulk.Plant) {
		s := equations(p)
		l, e := bulk.Close(p)
		if s.possible != (e == api.OK) || !s.possible && e != api.ErrClash {
			t.Fatalf("Close of %v = %v %d, possible: %t", p, l, e, s.possible)
		}
		for i, k := range l {
			want := bulk.Known{State: bulk.Open}
			switch {
			case p.Flows[i].Measured:
				want = bulk.Known{State: bulk.Measured, Mass: p.Flows[i].Mass}
			case s.only[i]:
				want = bulk.Known{State: bulk.Found, Mass: s.mass[i]}
			}
			if k != want {
				t.Fatalf("Close of %v: flow %d is %v, want %v", p, i, k, want)
			}
			states[k.State]++
		}
	})
	for state := bulk.Measured; state <= bulk.Open; state++ {
		if states[state] < 1000 {
			t.Errorf("only %d flows had the state %d", states[state], state)
		}
	}
}

// leads reports whether unmeasured flows other than one of them lead from an end to another one.
func leads(p bulk.Plant, without, from, to int) bool {
	reached := []int{from}
	for i := 0; i < len(reached); i++ {
		for j, f := range p.Flows {
			if f.Measured || j == without || f.From != reached[i] && f.To != reached[i] {
				continue
			}
			if next := f.From + f.To - reached[i]; !slices.Contains(reached, next) {
				reached = append(reached, next)
			}
		}
	}
	return slices.Contains(reached, to)
}

// TestP1_8_Ways: a flow is found just if no way of others leads from one of its ends to the other one.
func TestP1_8_Ways(t *testing.T) {
	manyPlants(500, func(p bulk.Plant) {
		l, _ := bulk.Close(p)
		for i, k := range l {
			if f := p.Flows[i]; !f.Measured && leads(p, i, f.From, f.To) != (k.State == bulk.Open) {
				t.Fatalf("Close of %v: flow %d is %v", p, i, k)
			}
		}
	})
}

// TestP1_8_Any: to an open flow each masses can be given, and to others none but theirs.
func TestP1_8_Any(t *testing.T) {
	r := rand.New(rand.NewPCG(8, 2))
	manyPlants(300, func(p bulk.Plant) {
		l, _ := bulk.Close(p)
		for i, k := range l {
			m := masses(r.IntN(3)-1, r.IntN(9)-4, r.IntN(2*api.MaxMass+1)-api.MaxMass, -api.MaxMass)
			balance, e := bulk.Fill(p, i, m)
			if k.State != bulk.Open {
				if e != api.ErrDiff {
					t.Fatalf("Fill of %v, flow %d with %v = %v %d", p, i, m, balance, e)
				}
				m = k.Mass
				balance, e = bulk.Fill(p, i, m)
			}
			if slices.Max(m[:]) > api.MaxMass || slices.Min(m[:]) < -api.MaxMass {
				continue
			}
			if e != api.OK || !isBalance(p, balance) || balance[i] != m {
				t.Fatalf("Fill of %v, flow %d with %v = %v %d", p, i, m, balance, e)
			}
			if unit, e := bulk.Verify(p, balance); unit != 0 || e != api.OK {
				t.Fatalf("Verify of Fill of %v = %d %d", p, unit, e)
			}
		}
	})
}

// TestP1_9_Proof: there is no balance just if some part proves it, and what is accepted proves it (G4).
func TestP1_9_Proof(t *testing.T) {
	proofs := 0
	manyPlants(300, func(p bulk.Plant) {
		possible := equations(p).possible
		set, kind, e := bulk.Prove(p)
		if possible != (e == api.ErrNone) || !possible && bulk.Refutes(p, set, kind) != api.OK {
			t.Fatalf("Prove of %v = %v %d %d, possible: %t", p, set, kind, e, possible)
		}
		partOf, _ := bulk.Parts(p)
		byPart := map[int][]int{}
		for unit, part := range partOf {
			byPart[part] = append(byPart[part], unit)
		}
		proved := false
		for part, set := range byPart {
			for kind := range 4 {
				proved = proved || part >= 0 && bulk.Refutes(p, set, kind) == api.OK
			}
		}
		if proved == possible {
			t.Fatalf("a part of %v proves it: %t, possible: %t", p, proved, possible)
		}
		for _, set := range sets(p.Units) {
			for kind := range 4 {
				if bulk.Refutes(p, set, kind) == api.OK && possible {
					t.Fatalf("Refutes of %v accepts %v with %d", p, set, kind)
				}
			}
		}
		if proved {
			proofs++
		}
	})
	if proofs < 50 {
		t.Errorf("only %d proofs", proofs)
	}
}

// TestP1_10_Kept: of a balance, what comes to a set of units goes from it, too (G2).
func TestP1_10_Kept(t *testing.T) {
	manyPlants(200, func(p bulk.Plant) {
		for i := range p.Flows {
			l, e := bulk.Fill(p, i, masses(1, -2, 3, -4))
			if e != api.OK {
				continue
			}
			for _, set := range sets(p.Units) {
				if m := net(p, set, func(i int) (bulk.Masses, bool) { return l[i], true }); m != masses() {
					t.Fatalf("Fill of %v, flow %d: %v keep %v", p, i, set, m)
				}
			}
		}
	})
}

// TestP1_10_AllOrNothing: Verify accepts just what keeps everything.
func TestP1_10_AllOrNothing(t *testing.T) {
	r := rand.New(rand.NewPCG(10, 3))
	accepted := 0
	for range 2000 {
		p := plant(1+r.IntN(3), flow(0, bulk.Outside))
		l := []bulk.Masses{{r.IntN(2)}}
		for range r.IntN(4) {
			unit := r.IntN(p.Units)
			p.Flows = append(p.Flows, flow((unit+1)%(p.Units+1)-1, unit))
			l = append(l, masses(r.IntN(2)))
			if p.Flows[len(l)-1].From == unit {
				p.Flows[len(l)-1].From = bulk.Outside
			}
		}
		_, e := bulk.Verify(p, l)
		if (e == api.OK) != isBalance(p, l) {
			t.Fatalf("Verify of %v and %v = %d", p, l, e)
		}
		if e == api.OK {
			accepted++
		}
	}
	if accepted < 100 {
		t.Errorf("only %d were accepted", accepted)
	}
}

// TestP1_11_MoreMeasured: what is measured, too, opens nothing, and changes nothing if it was found.
func TestP1_11_MoreMeasured(t *testing.T) {
	r := rand.New(rand.NewPCG(11, 4))
	more := 0
	for range 500 {
		p, truth := truePlant(r)
		before, _ := bulk.Close(p)
		for i, k := range before {
			q := plant(p.Units, slices.Clone(p.Flows)...)
			m := truth[i]
			if k.State == bulk.Open && r.IntN(2) == 0 {
				m = masses(r.IntN(5), r.IntN(5), api.MaxMass)
			}
			if k.State == bulk.Measured || !measure(&q, i, m) {
				continue
			}
			after, e := bulk.Close(q)
			if e != api.OK {
				t.Fatalf("Close of %v with flow %d as %v = %d", p, i, m, e)
			}
			for j := range before {
				same := after[j] == before[j]
				found := before[j].State == bulk.Open && k.State == bulk.Open && after[j].State == bulk.Found
				if j != i && !same && !found {
					t.Fatalf("Close of %v with flow %d as %v: flow %d was %v and is %v", p, i, m, j, before[j], after[j])
				}
				if j != i && found {
					more++
				}
			}
			if after[i] != (bulk.Known{State: bulk.Measured, Mass: m}) {
				t.Fatalf("Close of %v with flow %d as %v: it is %v", p, i, m, after[i])
			}
		}
	}
	if more < 100 {
		t.Errorf("only %d flows became known", more)
	}
}

// split tells a flow by two whose masses add up to it; the second one is the last flow.
func split(r *rand.Rand, p bulk.Plant, i int) bulk.Plant {
	flows := slices.Clone(p.Flows)
	second := flows[i]
	for kind, n := range flows[i].Mass {
		second.Mass[kind] = r.IntN(n + 1)
		flows[i].Mass[kind] -= second.Mass[kind]
	}
	return plant(p.Units, append(flows, second)...)
}

// TestP1_12_TwoFlows: a measured flow can be told by two.
func TestP1_12_TwoFlows(t *testing.T) {
	r := rand.New(rand.NewPCG(12, 5))
	manyPlants(500, func(p bulk.Plant) {
		before, e := bulk.Close(p)
		for i, f := range p.Flows {
			if !f.Measured || len(p.Flows) == bulk.MaxFlows {
				continue
			}
			after, g := bulk.Close(split(r, p, i))
			if e != g || e == api.OK && len(after) != len(before)+1 {
				t.Fatalf("Close of %v = %d, with flow %d as two: %d", p, e, i, g)
			}
			for j := range before {
				if j != i && before[j] != after[j] {
					t.Fatalf("Close of %v: flow %d is %v, with flow %d as two: %v", p, j, before[j], i, after[j])
				}
			}
		}
	})
}

// TestP1_12_Orders: flows and units can be told in any order.
func TestP1_12_Orders(t *testing.T) {
	r := rand.New(rand.NewPCG(12, 6))
	manyPlants(1000, func(p bulk.Plant) {
		before, e := bulk.Close(p)
		place, unit := r.Perm(len(p.Flows)), r.Perm(p.Units)
		end := func(old int) int {
			if old == bulk.Outside {
				return old
			}
			return unit[old]
		}
		q := plant(p.Units, make([]bulk.Flow, len(p.Flows))...)
		for i, f := range p.Flows {
			f.From, f.To = end(f.From), end(f.To)
			q.Flows[place[i]] = f
		}
		after, g := bulk.Close(q)
		if e != g || len(after) != len(before) {
			t.Fatalf("Close of %v = %d, of %v: %d", p, e, q, g)
		}
		for i := range before {
			if before[i] != after[place[i]] {
				t.Fatalf("Close of %v: flow %d is %v, of %v: %v", p, i, before[i], q, after[place[i]])
			}
		}
	})
}
