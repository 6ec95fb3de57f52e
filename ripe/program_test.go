package ripe_test

import (
	"math/big"
	"slices"

	"zafra/ripe"
)

// program is a linear program: what numbers that are not below 0 can be, if their sums by the rows are at most as
// great as the ends of the rows say. A field's truths are just what its program allows, so that the answers of the
// package can be held against the chapter's definitions, without any of its lines.
type program struct {
	count int
	rows  [][]int
}

// atMost adds a row: the sum of numbers at places, each multiplied, is at most something.
func (p *program) atMost(most int, terms ...int) {
	row := make([]int, p.count+1)
	for term := range slices.Chunk(terms, 2) {
		row[term[0]] += term[1]
	}
	row[p.count] = most
	p.rows = append(p.rows, row)
}

// programOf says of a field what the chapter says of it.
func programOf(f ripe.Field) program {
	p := program{count: f.Weeks}
	for week := range f.Weeks {
		p.atMost(f.Range.Hi, week, 1)
		p.atMost(-f.Range.Lo, week, -1)
		if week >= 2 {
			p.atMost(0, week, 1, week-1, -2, week-2, 1)
		}
	}
	for _, s := range f.Samples {
		p.atMost(s.Value+s.Off, s.Week, 1)
		p.atMost(s.Off-s.Value, s.Week, -1)
	}
	return p
}

// best returns the greatest sum of numbers at places, each multiplied, and whether the rows allow any numbers. It
// goes from one basis to the next by the least-index rule of the criss-cross method, which always ends. The table has
// integers that are all to be divided by one of them, so that it is exact.
func (p program) best(terms ...int) (*big.Rat, bool) {
	table := make([][]int, 0, len(p.rows)+1)
	for _, row := range p.rows {
		table = append(table, slices.Clone(row))
	}
	goal := program{count: p.count}
	goal.atMost(0, terms...)
	for place := range p.count {
		goal.rows[0][place] *= -1
	}
	table = append(table, goal.rows[0])
	names := make([]int, p.count+len(p.rows)) // of columns, and then of rows
	for i := range names {
		names[i] = i
	}
	divisor := 1
	for {
		row, column, done := choose(table, names, p.count)
		if done {
			last := table[len(table)-1]
			return big.NewRat(int64(last[p.count]), int64(divisor)), row < 0
		}
		divisor = exchange(table, row, column, divisor)
		names[column], names[p.count+row] = names[p.count+row], names[column]
	}
}

// choose returns the row and the column to exchange, or that it is done; then there is a row if it cannot hold.
func choose(table [][]int, names []int, count int) (row, column int, done bool) {
	goal := table[len(table)-1]
	first := -1
	for i, name := range names {
		bad := i < count && goal[i] < 0 || i >= count && table[i-count][count] < 0
		if bad && (first < 0 || name < names[first]) {
			first = i
		}
	}
	if first < 0 {
		return -1, -1, true
	}
	partner := -1
	for i, name := range names {
		fits := first >= count && i < count && table[first-count][i] < 0 ||
			first < count && i >= count && table[i-count][first] > 0
		if fits && (partner < 0 || name < names[partner]) {
			partner = i
		}
	}
	if partner < 0 {
		return first, -1, true
	}
	return max(first, partner) - count, min(first, partner), false
}

// exchange exchanges a row for a column, and returns the new divisor.
func exchange(table [][]int, row, column, divisor int) int {
	pivot := table[row][column]
	for i := range table {
		for j := range table[i] {
			if i != row && j != column {
				table[i][j] = (table[i][j]*pivot - table[i][column]*table[row][j]) / divisor
			}
		}
	}
	for i := range table {
		table[i][column] *= -1
	}
	table[row][column] = divisor
	if pivot > 0 {
		return pivot
	}
	for i := range table {
		for j := range table[i] {
			table[i][j] *= -1
		}
	}
	return -pivot
}

// down rounds a number that is not below 0 down.
func down(n *big.Rat) int { return int(new(big.Int).Quo(n.Num(), n.Denom()).Int64()) }

func up(n *big.Rat) int {
	if n.IsInt() {
		return down(n)
	}
	return down(n) + 1
}

// leastOf returns the least sweetness of a week in all truths.
func (p program) leastOf(week int) *big.Rat {
	n, _ := p.best(week, -1)
	return n.Neg(n)
}

// peak reports whether a week has the greatest sweetness in some truth.
func (p program) peak(week int) bool {
	q := program{count: p.count, rows: slices.Clone(p.rows)}
	for other := range p.count {
		if other != week {
			q.atMost(0, other, 1, week, -1)
		}
	}
	_, ok := q.best()
	return ok
}

// regret is the greatest loss of cutting in a week.
func (p program) regret(week int) *big.Rat {
	most := new(big.Rat)
	for other := range p.count {
		if n, _ := p.best(other, 1, week, -1); n.Cmp(most) > 0 {
			most = n
		}
	}
	return most
}
