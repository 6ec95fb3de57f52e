package bulk_test

import (
	"math/rand/v2"

	"zafra/api"
	"zafra/bulk"
)

func units(l ...int) []int { return l }

func masses(l ...int) bulk.Masses {
	var m bulk.Masses
	copy(m[:], l)
	return m
}

// flow returns a flow that is not measured. Its mass must not be looked at, so it is no mass at all.
func flow(from, to int) bulk.Flow {
	return bulk.Flow{From: from, To: to, Mass: bulk.Masses{-1, 1 << 62, -77, 3}}
}

func seen(from, to int, l ...int) bulk.Flow {
	return bulk.Flow{From: from, To: to, Measured: true, Mass: masses(l...)}
}

func plant(count int, flows ...bulk.Flow) bulk.Plant {
	return bulk.Plant{Units: count, Flows: flows}
}

func known(state int, l ...int) bulk.Known {
	return bulk.Known{State: state, Mass: masses(l...)}
}

// chapterMill is M of the chapter's examples.
func chapterMill() bulk.Plant {
	return plant(3,
		seen(bulk.Outside, 0, 100, 600, 130, 20),
		flow(0, 1),
		seen(0, bulk.Outside, 5, 150, 125, 8),
		seen(1, 2, 90, 40, 0, 6),
		flow(1, bulk.Outside),
		flow(2, bulk.Outside),
		seen(2, bulk.Outside, 80, 1, 0, 1))
}

// openMill is M without the measurement of flow 3.
func openMill() bulk.Plant {
	p := chapterMill()
	p.Flows[3] = flow(1, 2)
	return p
}

// clashMill is M with a wrong measurement of flow 5.
func clashMill() bulk.Plant {
	p := chapterMill()
	p.Flows[1] = seen(0, 1, 95, 450, 5, 12)
	p.Flows[4] = seen(1, bulk.Outside, 5, 410, 5, 6)
	p.Flows[5] = seen(2, bulk.Outside, 10, 39, 0, 4)
	return p
}

// badPlants are plants with the errors that Check has for them.
func badPlants() []struct {
	plant bulk.Plant
	want  api.Errno
} {
	return []struct {
		plant bulk.Plant
		want  api.Errno
	}{
		{plant(0), api.ErrRange},
		{plant(-1), api.ErrRange},
		{plant(bulk.MaxUnits + 1), api.ErrRange},
		{plant(0, make([]bulk.Flow, bulk.MaxFlows+1)...), api.ErrRange},
		{plant(1, make([]bulk.Flow, bulk.MaxFlows+1)...), api.ErrMany},
		{plant(2, flow(0, 2)), api.ErrUnit},
		{plant(2, flow(2, 0)), api.ErrUnit},
		{plant(2, flow(-2, 0)), api.ErrUnit},
		{plant(2, flow(0, -2)), api.ErrUnit},
		{plant(2, flow(2, 2)), api.ErrUnit},
		{plant(2, seen(0, 2, -1)), api.ErrUnit},
		{plant(2, flow(1, 1)), api.ErrDiff},
		{plant(2, flow(bulk.Outside, bulk.Outside)), api.ErrDiff},
		{plant(2, seen(1, 1, -1)), api.ErrDiff},
		{plant(2, seen(0, 1, -1)), api.ErrRange},
		{plant(2, seen(0, 1, 0, 0, 0, -1)), api.ErrRange},
		{plant(2, seen(0, 1, 0, api.MaxMass+1)), api.ErrRange},
		{plant(2, seen(0, 1, 0, 0, api.MaxMass+1)), api.ErrRange},
		{plant(2, flow(0, 1), seen(0, 1, -1), flow(0, 0), flow(9, 0)), api.ErrRange},
		{plant(2, flow(0, 1), flow(0, 0), flow(9, 0), seen(0, 1, -1)), api.ErrDiff},
		{plant(2, flow(0, 1), flow(9, 0), seen(0, 1, -1), flow(0, 0)), api.ErrUnit},
	}
}

// sets returns all sets of at least one unit.
func sets(count int) [][]int {
	var all [][]int
	for bits := 1; bits < 1<<count; bits++ {
		var set []int
		for unit := range count {
			if bits>>unit&1 == 1 {
				set = append(set, unit)
			}
		}
		all = append(all, set)
	}
	return all
}

// net is what comes to the units of a set from elsewhere, less what goes from them elsewhere.
func net(p bulk.Plant, set []int, carried func(i int) (bulk.Masses, bool)) bulk.Masses {
	var in [1 + bulk.MaxUnits]bool
	for _, unit := range set {
		in[unit+1] = true
	}
	var sum bulk.Masses
	for i, f := range p.Flows {
		m, ok := carried(i)
		if !ok || in[f.From+1] == in[f.To+1] {
			continue
		}
		for kind := range sum {
			if in[f.To+1] {
				sum[kind] += m[kind]
			} else {
				sum[kind] -= m[kind]
			}
		}
	}
	return sum
}

// isBalance checks a balance by the chapter's definition alone.
func isBalance(p bulk.Plant, balance []bulk.Masses) bool {
	if len(balance) != len(p.Flows) {
		return false
	}
	for i, f := range p.Flows {
		if f.Measured && balance[i] != f.Mass {
			return false
		}
	}
	for unit := range p.Units {
		if net(p, units(unit), func(i int) (bulk.Masses, bool) { return balance[i], true }) != masses() {
			return false
		}
	}
	return true
}

// solution is what the linear equations of a plant say.
type solution struct {
	possible bool
	only     []bool // of a flow, that all balances give it the same masses
	mass     []bulk.Masses
}

// equations solves those of a plant by elimination, which uses no graph. All entries remain -1, 0 or 1, as the
// table of ends of a graph is totally unimodular.
func equations(p bulk.Plant) solution {
	rows := make([][]int, p.Units)
	right := make([]bulk.Masses, p.Units)
	for unit := range p.Units {
		rows[unit] = make([]int, len(p.Flows))
		for i, f := range p.Flows {
			sign := 0
			if f.To == unit {
				sign = 1
			} else if f.From == unit {
				sign = -1
			}
			if !f.Measured {
				rows[unit][i] = sign
				continue
			}
			for kind, n := range f.Mass {
				right[unit][kind] -= sign * n
			}
		}
	}
	pivots := eliminate(rows, right)
	s := solution{possible: true, only: make([]bool, len(p.Flows)), mass: make([]bulk.Masses, len(p.Flows))}
	for row := len(pivots); row < len(rows); row++ {
		s.possible = s.possible && right[row] == masses()
	}
	for row, pivot := range pivots {
		terms := 0
		for _, n := range rows[row] {
			if n != 0 {
				terms++
			}
		}
		s.only[pivot] = terms == 1
		s.mass[pivot] = right[row]
	}
	return s
}

// eliminate brings rows to their reduced form, and returns the column that each row with one begins with.
func eliminate(rows [][]int, right []bulk.Masses) []int {
	var pivots []int
	for column := 0; len(rows) > 0 && column < len(rows[0]); column++ {
		at := len(pivots)
		for at < len(rows) && rows[at][column] == 0 {
			at++
		}
		if at == len(rows) {
			continue
		}
		top := len(pivots)
		rows[at], rows[top] = rows[top], rows[at]
		right[at], right[top] = right[top], right[at]
		scale(rows[top], &right[top], rows[top][column])
		for row := range rows {
			if row != top {
				subtract(rows[row], &right[row], rows[top], right[top], rows[row][column])
			}
		}
		pivots = append(pivots, column)
	}
	return pivots
}

func scale(row []int, right *bulk.Masses, sign int) {
	for i := range row {
		row[i] *= sign
	}
	for kind := range right {
		right[kind] *= sign
	}
}

func subtract(row []int, right *bulk.Masses, other []int, otherRight bulk.Masses, times int) {
	for i := range row {
		row[i] -= times * other[i]
	}
	for kind := range right {
		right[kind] -= times * otherRight[kind]
	}
}

// anyPlant returns a plant whose measurements often contradict each other.
func anyPlant(r *rand.Rand) bulk.Plant {
	p := plant(1 + r.IntN(bulk.MaxUnits))
	for range r.IntN(1 + bulk.MaxFlows) {
		from, to := r.IntN(1+p.Units)-1, r.IntN(1+p.Units)-1
		if from == to {
			continue
		}
		f := flow(from, to)
		if r.IntN(5) < 2 {
			f = seen(from, to, r.IntN(2), r.IntN(2))
		}
		p.Flows = append(p.Flows, f)
	}
	return p
}

// truePlant returns a plant and one of its balances, made of flows around cycles and of some that carry nothing.
func truePlant(r *rand.Rand) (bulk.Plant, []bulk.Masses) {
	p := plant(1 + r.IntN(bulk.MaxUnits))
	var truth []bulk.Masses
	most := 1 << (1 + r.IntN(29))
	add := func(from, to int, m bulk.Masses) {
		if r.IntN(4) == 0 {
			from, to = to, from
			for kind := range m {
				m[kind] = -m[kind]
			}
		}
		p.Flows = append(p.Flows, flow(from, to))
		truth = append(truth, m)
	}
	for len(p.Flows)+4 <= bulk.MaxFlows && r.IntN(8) > 0 {
		ends := r.Perm(1 + p.Units)[:2+r.IntN(min(3, p.Units))]
		m := masses(r.IntN(most), r.IntN(most), r.IntN(most), r.IntN(most))
		if r.IntN(6) == 0 {
			add(ends[0]-1, ends[1]-1, masses())
			continue
		}
		for i, end := range ends {
			add(end-1, ends[(i+1)%len(ends)]-1, m)
		}
	}
	often := r.IntN(5)
	for i := range p.Flows {
		if r.IntN(5) < often {
			measure(&p, i, truth[i])
		}
	}
	return p, truth
}

// measure measures a flow if its masses can be measured.
func measure(p *bulk.Plant, i int, m bulk.Masses) bool {
	for _, n := range m {
		if n < 0 || n > api.MaxMass {
			return false
		}
	}
	p.Flows[i].Measured, p.Flows[i].Mass = true, m
	return true
}

// manyPlants calls a test with plants of both sorts, always the same ones.
func manyPlants(count int, test func(p bulk.Plant)) {
	r := rand.New(rand.NewPCG(1, 2))
	for range count {
		test(anyPlant(r))
		p, _ := truePlant(r)
		test(p)
	}
}
