package tests

import (
	"slices"

	"loop.example/s01205/impl"
)

// The oracle of plans takes other ways than the program. A bag of an order is
// found by paths, without eliminating: a later variable is in the bag of an
// earlier one exactly if a path of the pattern's edges leads to it by way of
// variables alone that stand before the earlier one. Whether bags hang
// together is found by spreading from one of them along the parents, both ways.

// coverWidths keeps what CoverOf said, by bag, for one list of edges.
type coverWidths struct {
	edges [][]int
	known map[int]impl.Rat
}

func (c coverWidths) of(bag []int) impl.Rat {
	bits := 0
	for _, v := range bag {
		bits |= 1 << v
	}
	width, known := c.known[bits]
	if !known {
		width = impl.CoverOf(bag, c.edges).Width
		c.known[bits] = width
	}
	return width
}

func widthsFor(edges [][]int) coverWidths { return coverWidths{edges, map[int]impl.Rat{}} }

func adjacent(edges [][]int, a, b int) bool {
	return slices.ContainsFunc(edges, func(edge []int) bool {
		return slices.Contains(edge, a) && slices.Contains(edge, b)
	})
}

// reached are the variables to which paths lead from a start by way of the allowed ones.
func reached(edges [][]int, start int, allowed, all []int) []int {
	found := []int{start}
	for i := 0; i < len(found); i++ {
		if found[i] != start && !slices.Contains(allowed, found[i]) {
			continue
		}
		for _, next := range all {
			if adjacent(edges, found[i], next) && !slices.Contains(found, next) {
				found = append(found, next)
			}
		}
	}
	return found
}

func oracleBag(edges [][]int, order []int, i int) []int {
	var bag []int
	for _, v := range reached(edges, order[i], order[:i], order) {
		if !slices.Contains(order[:i], v) {
			bag = append(bag, v)
		}
	}
	slices.Sort(bag)
	return bag
}

// firstEliminated is the least place of the variables in the order, -1 without variables.
func firstEliminated(variables, order []int) int {
	place := -1
	for _, v := range variables {
		if at := slices.Index(order, v); place < 0 || at < place {
			place = at
		}
	}
	return place
}

// oraclePlan is Eliminate for a pattern and an order of its variables.
func oraclePlan(edges [][]int, order []int, widths coverWidths) impl.Plan {
	p := impl.Plan{Width: rat(0, 1)}
	for i, v := range order {
		bag := oracleBag(edges, order, i)
		others := slices.DeleteFunc(slices.Clone(bag), func(u int) bool { return u == v })
		p.Bags = append(p.Bags, bag)
		p.Parent = append(p.Parent, firstEliminated(others, order))
		p.Widths = append(p.Widths, widths.of(bag))
		if bigOf(p.Widths[i]).Cmp(bigOf(p.Width)) > 0 {
			p.Width = p.Widths[i]
		}
	}
	for _, edge := range edges {
		p.Home = append(p.Home, firstEliminated(edge, order))
	}
	return p
}

func oracleSet(list []int, k int) bool {
	last := -1
	for _, v := range list {
		if v <= last || v >= k {
			return false
		}
		last = v
	}
	return true
}

func oraclePattern(k int, edges [][]int) bool {
	if k < 0 || k > 6 || len(edges) > 7 {
		return false
	}
	for _, edge := range edges {
		if !oracleSet(edge, k) {
			return false
		}
	}
	return inSomeEdge(upTo(k), edges)
}

// oneGroup: spreading along the parents from the first of the bags reaches them all.
func oneGroup(bags, parent []int) bool {
	if len(bags) == 0 {
		return false
	}
	group := []int{bags[0]}
	for i := 0; i < len(group); i++ {
		for _, b := range bags {
			joined := parent[b] == group[i] || parent[group[i]] == b
			if joined && !slices.Contains(group, b) {
				group = append(group, b)
			}
		}
	}
	return len(group) == len(bags)
}

func bagsWith(v int, bags [][]int) []int {
	var with []int
	for i, bag := range bags {
		if slices.Contains(bag, v) {
			with = append(with, i)
		}
	}
	return with
}

func oracleTree(k int, p impl.Plan) bool {
	if len(p.Bags) > 12 || len(p.Parent) != len(p.Bags) {
		return false
	}
	for i, bag := range p.Bags {
		later := p.Parent[i] > i && p.Parent[i] < len(p.Bags)
		if len(bag) == 0 || !oracleSet(bag, k) || p.Parent[i] != -1 && !later {
			return false
		}
	}
	for v := range k {
		if !oneGroup(bagsWith(v, p.Bags), p.Parent) {
			return false
		}
	}
	return true
}

func oracleHomes(edges [][]int, p impl.Plan) bool {
	if len(p.Home) != len(edges) {
		return false
	}
	for i, edge := range edges {
		allowed := []int{}
		for b, bag := range p.Bags {
			missing := slices.ContainsFunc(edge, func(v int) bool { return !slices.Contains(bag, v) })
			if len(edge) > 0 && !missing {
				allowed = append(allowed, b)
			}
		}
		if len(edge) == 0 {
			allowed = append(allowed, -1)
		}
		if !slices.Contains(allowed, p.Home[i]) {
			return false
		}
	}
	return true
}

func oracleWidths(p impl.Plan, widths coverWidths) bool {
	greatest := rat(0, 1)
	var want []impl.Rat
	for _, bag := range p.Bags {
		width := widths.of(bag)
		want = append(want, width)
		if bigOf(width).Cmp(bigOf(greatest)) > 0 {
			greatest = width
		}
	}
	return slices.Equal(p.Widths, want) && p.Width == greatest
}

// oraclePlanOK is PlanOK; widths are those for the edges.
func oraclePlanOK(k int, edges [][]int, p impl.Plan, widths coverWidths) bool {
	return oraclePattern(k, edges) && oracleTree(k, p) && oracleHomes(edges, p) && oracleWidths(p, widths)
}
