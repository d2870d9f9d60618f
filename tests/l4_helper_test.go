package tests

import (
	"math/rand"
	"slices"
	"testing"

	"loop.example/s01205/impl"
)

func samePlan(a, b impl.Plan) bool {
	return sameLists(a.Bags, b.Bags) && slices.Equal(a.Parent, b.Parent) && slices.Equal(a.Home, b.Home) &&
		slices.Equal(a.Widths, b.Widths) && a.Width == b.Width
}

func noPlan(p impl.Plan) bool {
	return len(p.Bags) == 0 && len(p.Parent) == 0 && len(p.Home) == 0 && len(p.Widths) == 0 && p.Width == (impl.Rat{})
}

func clonePlan(p impl.Plan) impl.Plan {
	return impl.Plan{
		Bags: cloneLists(p.Bags), Parent: slices.Clone(p.Parent), Home: slices.Clone(p.Home),
		Widths: slices.Clone(p.Widths), Width: p.Width,
	}
}

// withWidths fills in what CoverOf says, so that a test breaks other things alone.
func withWidths(edges [][]int, p impl.Plan) impl.Plan {
	return withWidthsBy(p, func(bag []int) impl.Rat { return impl.CoverOf(bag, edges).Width })
}

func withWidthsBy(p impl.Plan, widthOf func(bag []int) impl.Rat) impl.Plan {
	p.Widths, p.Width = nil, rat(0, 1)
	for _, bag := range p.Bags {
		width := widthOf(bag)
		p.Widths = append(p.Widths, width)
		if okRat(width) && bigOf(width).Cmp(bigOf(p.Width)) > 0 {
			p.Width = width
		}
	}
	return p
}

// plain is a plan with the right widths.
func plain(edges, bags [][]int, parent, home []int) impl.Plan {
	return withWidths(edges, impl.Plan{Bags: bags, Parent: parent, Home: home})
}

func upTo(k int) []int {
	all := []int{}
	for v := range k {
		all = append(all, v)
	}
	return all
}

// nextOrder goes on to the lexicographically next order, in place; it answers whether there's one.
func nextOrder(order []int) bool {
	i := len(order) - 2
	for i >= 0 && order[i] > order[i+1] {
		i--
	}
	if i < 0 {
		return false
	}
	j := len(order) - 1
	for order[j] < order[i] {
		j--
	}
	order[i], order[j] = order[j], order[i]
	slices.Reverse(order[i+1:])
	return true
}

// allOrders are those of 0 to k-1, sorted.
func allOrders(k int) [][]int {
	order := upTo(k)
	orders := [][]int{slices.Clone(order)}
	for nextOrder(order) {
		orders = append(orders, slices.Clone(order))
	}
	return orders
}

// smallPatterns calls for each pattern of at most k variables with at most most edges.
func smallPatterns(k, most int, call func(k int, edges [][]int)) {
	var lists func(k int, edges [][]int)
	lists = func(k int, edges [][]int) {
		if inSomeEdge(upTo(k), edges) {
			call(k, edges)
		}
		if len(edges) == most {
			return
		}
		for bits := range 1 << k {
			lists(k, append(slices.Clone(edges), setOf(bits)))
		}
	}
	for few := range k + 1 {
		lists(few, nil)
	}
}

// drawnPattern has k variables and the given number of edges, mostly of two and three variables.
func drawnPattern(draw *rand.Rand, k, count int) [][]int {
	for {
		var edges [][]int
		for range count {
			edge := draw.Perm(k)[:min(k, draw.Intn(4))]
			if draw.Intn(3) == 0 {
				edge = draw.Perm(k)[:min(k, 2)]
			}
			slices.Sort(edge)
			edges = append(edges, edge)
		}
		if inSomeEdge(upTo(k), edges) {
			return edges
		}
	}
}

// spoilPlan overwrites all memory of an answer, up to the capacity of its lists.
func spoilPlan(t *testing.T, order []int, p impl.Plan) {
	t.Helper()
	checkApart(t, append(slices.Clone(p.Bags), p.Parent, p.Home, order))
	checkOuterApart(t, [][][]int{p.Bags})
	for i := range p.Widths[:cap(p.Widths)] {
		p.Widths[:cap(p.Widths)][i] = rat(-7, -7)
	}
}

const guard = 8888

// guarded are the same lists with room behind their ends, marked, so that a
// write there shows, too.
func guarded(lists [][]int) [][]int {
	out := make([][]int, 0, len(lists)+3)
	for _, list := range lists {
		out = append(out, guardedList(list))
	}
	for _, room := range [][]int{{guard}, {guard}, {guard}} {
		out = append(out, room)
	}
	return out[:len(lists)]
}

func guardedList(list []int) []int {
	return append(slices.Clone(list), guard, guard, guard)[:len(list)]
}

func guardHolds(list []int) bool {
	room := list[len(list) : len(list)+3]
	return slices.Equal(room, []int{guard, guard, guard})
}

func guardsHold(lists [][]int) bool {
	for _, list := range lists {
		if !guardHolds(list) {
			return false
		}
	}
	return sameLists(lists[len(lists):len(lists)+3], [][]int{{guard}, {guard}, {guard}})
}
