package tests

import (
	"slices"

	"loop.example/s01205/impl"
)

// The oracle finds the least covers and packings by going through all corners:
// the points where as many bounds hold with equality as there are unknowns.
// The lexicographically least of the best points is always a corner. It shares
// no step with the program's way.

// bound says: the sum of factors times the unknowns is at least least.
type bound struct {
	factors []int
	least   int
}

func coverBounds(bag []int, edges [][]int) []bound {
	bounds := nonNegative(len(edges))
	for _, v := range bag {
		b := bound{make([]int, len(edges)), 1}
		for j, edge := range edges {
			if slices.Contains(edge, v) {
				b.factors[j] = 1
			}
		}
		bounds = append(bounds, b)
	}
	return bounds
}

func packingBounds(bag []int, edges [][]int) []bound {
	bounds := nonNegative(len(bag))
	for _, edge := range edges {
		b := bound{make([]int, len(bag)), -1}
		for j, v := range bag {
			if slices.Contains(edge, v) {
				b.factors[j] = -1
			}
		}
		bounds = append(bounds, b)
	}
	return bounds
}

func nonNegative(unknowns int) []bound {
	var bounds []bound
	for j := range unknowns {
		b := bound{make([]int, unknowns), 0}
		b.factors[j] = 1
		bounds = append(bounds, b)
	}
	return bounds
}

// corner is a point: over each of parts stands the same positive number below.
type corner struct {
	parts []int
	below int
}

func (c corner) rats() []impl.Rat {
	rats := []impl.Rat{}
	for _, p := range c.parts {
		rats = append(rats, c.rat(p))
	}
	return rats
}

func (c corner) rat(part int) impl.Rat {
	d := divisor(part, c.below)
	return rat(part/d, c.below/d)
}

func (c corner) sum() int {
	sum := 0
	for _, p := range c.parts {
		sum += p
	}
	return sum
}

func divisor(a, b int) int {
	if b == 0 {
		return max(a, -a)
	}
	return divisor(b, a%b)
}

func (c corner) keeps(bounds []bound) bool {
	for _, b := range bounds {
		sum := 0
		for j, f := range b.factors {
			sum += f * c.parts[j]
		}
		if sum < b.least*c.below {
			return false
		}
	}
	return true
}

// before: sign times the sum is less, or it's equal and the point is lexicographically less.
func (c corner) before(o corner, sign int) bool {
	if a, b := sign*c.sum()*o.below, sign*o.sum()*c.below; a != b {
		return a < b
	}
	for j := range c.parts {
		if a, b := c.parts[j]*o.below, o.parts[j]*c.below; a != b {
			return a < b
		}
	}
	return false
}

// solve finds the one point where the bounds hold with equality, by elimination over whole numbers.
func solve(bounds []bound) (corner, bool) {
	n := len(bounds)
	rows := make([][]int, n)
	for i, b := range bounds {
		rows[i] = append(slices.Clone(b.factors), b.least)
	}
	last := 1
	for k := range n {
		at := slices.IndexFunc(rows[k:], func(row []int) bool { return row[k] != 0 })
		if at < 0 {
			return corner{}, false
		}
		rows[k], rows[k+at] = rows[k+at], rows[k]
		for i := range n {
			if i == k {
				continue
			}
			factor := rows[i][k]
			for j := range rows[i] {
				rows[i][j] = (rows[i][j]*rows[k][k] - factor*rows[k][j]) / last
			}
		}
		last = rows[k][k]
	}
	return cornerOf(rows, last), true
}

func cornerOf(rows [][]int, below int) corner {
	c := corner{make([]int, len(rows)), max(below, -below)}
	for i, row := range rows {
		c.parts[i] = row[len(row)-1]
		if below < 0 {
			c.parts[i] = -c.parts[i]
		}
	}
	return c
}

// bestCorner: of the corners that keep the bounds, the first by before.
func bestCorner(unknowns int, bounds []bound, sign int) corner {
	var best *corner
	var choose func(from int, tight []bound)
	choose = func(from int, tight []bound) {
		if len(tight) == unknowns {
			if c, ok := solve(tight); ok && c.keeps(bounds) && (best == nil || c.before(*best, sign)) {
				best = &c
			}
			return
		}
		for i := from; i < len(bounds); i++ {
			choose(i+1, append(tight, bounds[i]))
		}
	}
	choose(0, nil)
	return *best
}

// oracleCover is CoverOf for arguments that 1.2 allows.
func oracleCover(bag []int, edges [][]int) impl.Cover {
	weights := bestCorner(len(edges), coverBounds(bag, edges), 1)
	dual := bestCorner(len(bag), packingBounds(bag, edges), -1)
	return impl.Cover{OK: true, Width: weights.rat(weights.sum()), Weights: weights.rats(), Dual: dual.rats()}
}
