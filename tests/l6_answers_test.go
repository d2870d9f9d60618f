package tests

import (
	"math"
	"math/rand"
	"slices"
	"testing"

	"loop.example/s01205/impl"
)

// weightedEdges has the edges of the document's example, over two variables.
func weightedEdges(a, b int) impl.Table {
	return table([]int{a, b}, [][]int{{1, 2}, {1, 3}, {2, 3}, {3, 1}}, 5, 2, 7, 1)
}

func TestAnswersPinned(t *testing.T) {
	path := []impl.Table{weightedEdges(0, 1), weightedEdges(1, 2)}
	edges := varsOf(path)
	plans := []impl.Plan{
		impl.Eliminate(3, edges, []int{0, 1, 2}),
		impl.Eliminate(3, edges, []int{1, 2, 0}),
		plain(edges, [][]int{{0, 1, 2}}, []int{-1}, []int{0, 0}),
		plain(edges, [][]int{{1}, {1, 2}, {1}, {0, 1}, {0}}, []int{2, 2, 3, 4, -1}, []int{3, 1}),
	}
	cases := []struct {
		head                []int
		rows                [][]int
		count, sum, leastOf []int
	}{
		{[]int{0, 1, 2}, [][]int{{1, 2, 3}, {1, 3, 1}, {2, 3, 1}, {3, 1, 2}, {3, 1, 3}}, []int{1, 1, 1, 1, 1}, []int{35, 2, 7, 5, 2}, []int{12, 3, 8, 6, 3}},
		{[]int{2, 0}, [][]int{{1, 1}, {1, 2}, {2, 3}, {3, 1}, {3, 3}}, []int{1, 1, 1, 1, 1}, []int{2, 7, 5, 35, 2}, []int{3, 8, 6, 12, 3}},
		{[]int{0}, [][]int{{1}, {2}, {3}}, []int{2, 1, 2}, []int{37, 7, 7}, []int{3, 8, 3}},
		{[]int{1}, [][]int{{1}, {2}, {3}}, []int{2, 1, 2}, []int{7, 35, 9}, []int{3, 12, 3}},
		{[]int{2}, [][]int{{1}, {2}, {3}}, []int{2, 1, 2}, []int{9, 5, 37}, []int{3, 6, 3}},
		{nil, [][]int{{}}, []int{5}, []int{51}, []int{3}},
	}
	for i, p := range plans {
		if !impl.PlanOK(3, edges, p) {
			t.Fatalf("plan %d isn't OK", i)
		}
		for _, c := range cases {
			if got := impl.Enumerate(3, path, p, c.head); !sameLists(got, c.rows) {
				t.Errorf("plan %d, head %v: %v", i, c.head, got)
			}
			for ring, want := range [][]int{nil, c.count, c.sum, c.leastOf} {
				if ring == 0 {
					continue
				}
				if got, worths := impl.Aggregate(3, path, p, c.head, ring); !sameLists(got, c.rows) || !slices.Equal(worths, want) {
					t.Errorf("plan %d, head %v, ring %d: %v, %v", i, c.head, ring, got, worths)
				}
			}
		}
		checkAnswers(t, 3, path, p, allHeads(3)...)
	}
}

// checkNone asks for no lists, and for as many empty tables as there are bags.
func checkNone(t *testing.T, name string, k int, tables []impl.Table, p impl.Plan) {
	t.Helper()
	if !impl.PlanOK(k, varsOf(tables), p) {
		t.Fatalf("%s: the plan isn't OK", name)
	}
	got := impl.Reduce(k, tables, p)
	if len(got) != len(p.Bags) {
		t.Errorf("%s: %d tables", name, len(got))
	}
	for i, x := range got {
		if !slices.Equal(x.Vars, p.Bags[i]) || len(x.Rows) != 0 || len(x.Weights) != 0 {
			t.Errorf("%s: %v", name, x)
		}
	}
	for _, head := range allHeads(min(k, 3)) {
		checkNoLists(t, name, k, tables, p, head)
	}
	checkAnswers(t, k, tables, p, allHeads(min(k, 3))...)
}

func TestNoAnswers(t *testing.T) {
	triangle := oddTriangle()
	for _, order := range allOrders(3) {
		checkNone(t, "the odd triangle", 3, triangle, impl.Eliminate(3, varsOf(triangle), order))
	}
	broken := brokenChain()
	for _, order := range [][]int{{0, 1, 2, 3, 4}, {4, 3, 2, 1, 0}, {2, 0, 4, 1, 3}, {1, 3, 0, 2, 4}, {3, 2, 1, 0, 4}} {
		checkNone(t, "the broken chain", 5, broken, impl.Eliminate(5, varsOf(broken), order))
	}
	for place := range 4 {
		tables := []impl.Table{numbersOf(0, 3), weightedEdges(1, 2), unit(), numbersOf(2, 2)}
		tables[place].Rows, tables[place].Weights = nil, nil
		for _, order := range allOrders(3) {
			checkNone(t, "one empty table", 3, tables, impl.Eliminate(3, varsOf(tables), order))
		}
	}
}

func TestAnswersWithoutVariables(t *testing.T) {
	// No bags, so no plan but this one.
	bare := func(count int) impl.Plan {
		return impl.Plan{Home: slices.Repeat([]int{-1}, count), Width: rat(0, 1)}
	}
	with := func(weight int) impl.Table { return table(nil, [][]int{{}}, weight) }
	cases := []struct {
		name            string
		tables          []impl.Table
		sum, leastWorth int
	}{
		{"no tables", nil, 1, 0},
		{"one row", []impl.Table{with(9)}, 9, 9},
		{"weight 0", []impl.Table{with(0)}, 0, 0},
		{"two", []impl.Table{with(-9), with(4)}, -36, -5},
		{"the same twice", []impl.Table{with(-9), with(-9)}, 81, -18},
		{"seven", []impl.Table{with(1), with(2), with(3), with(4), with(5), with(6), with(7)}, 5040, 28},
		{"greatest weights", []impl.Table{with(impl.MaxWeight), with(impl.MaxWeight), with(-impl.MaxWeight)}, -1000000000000000000, impl.MaxWeight},
	}
	for _, c := range cases {
		p := bare(len(c.tables))
		if got := impl.Enumerate(0, c.tables, p, nil); !sameLists(got, [][]int{{}}) {
			t.Errorf("%s: %v", c.name, got)
		}
		for ring, want := range []int{0, 1, c.sum, c.leastWorth} {
			if ring == 0 {
				continue
			}
			if got, worths := impl.Aggregate(0, c.tables, p, nil, ring); !sameLists(got, [][]int{{}}) || !slices.Equal(worths, []int{want}) {
				t.Errorf("%s: ring %d: %v, %v", c.name, ring, got, worths)
			}
		}
		checkAnswers(t, 0, c.tables, p, nil)
	}
	checkNone(t, "no row", 0, []impl.Table{nothing()}, bare(1))
	checkNone(t, "no row first", 0, []impl.Table{nothing(), unit()}, bare(2))
	checkNone(t, "no row last", 0, []impl.Table{unit(), unit(), nothing()}, bare(3))
}

// Tables without variables and parts with none in common count in every answer.
func TestAnswersOfParts(t *testing.T) {
	tables := []impl.Table{
		table([]int{0}, [][]int{{4}, {6}}, 2, 3),
		table([]int{1}, [][]int{{7}}, 10),
		table(nil, [][]int{{}}, -1),
	}
	edges := varsOf(tables)
	plans := []impl.Plan{
		impl.Eliminate(2, edges, []int{0, 1}),
		impl.Eliminate(2, edges, []int{1, 0}),
		plain(edges, [][]int{{1}, {0}}, []int{1, -1}, []int{1, 0, -1}),
		plain(edges, [][]int{{0, 1}}, []int{-1}, []int{0, 0, -1}),
	}
	for i, p := range plans {
		if got, worths := impl.Aggregate(2, tables, p, []int{1}, impl.RingSum); !sameLists(got, [][]int{{7}}) || !slices.Equal(worths, []int{-50}) {
			t.Error(i, got, worths)
		}
		if got, worths := impl.Aggregate(2, tables, p, []int{0}, impl.RingMin); !sameLists(got, [][]int{{4}, {6}}) || !slices.Equal(worths, []int{11, 12}) {
			t.Error(i, got, worths)
		}
		checkAnswers(t, 2, tables, p, allHeads(2)...)
	}
	// Six parts, a table without variables, and plans that hang them anywhere.
	draw := rand.New(rand.NewSource(63))
	var many []impl.Table
	for v := range 6 {
		many = append(many, numbersOf(v, 1+v%3))
	}
	many = reweighted(draw, append(many, unit()), []int{-3, -2, 0, 2, 5})
	_, best := impl.BestPlan(6, varsOf(many))
	for range 15 {
		checkAnswers(t, 6, many, rehung(draw, best), someHeads(draw, 6)...)
	}
}

// A table that stands there twice counts twice.
func TestAnswersOfTheSameTableTwice(t *testing.T) {
	x := table([]int{0, 1}, [][]int{{1, 2}, {1, 3}, {4, 0}}, 3, -4, 0)
	for count := 1; count <= 7; count++ {
		tables := slices.Repeat([]impl.Table{x}, count)
		edges := varsOf(tables)
		sum := func(w int) int {
			product := 1
			for range count {
				product *= w
			}
			return product
		}
		alike, parent := chain(12, 0, 1)
		spread := impl.Plan{Bags: alike, Parent: parent}
		for i := range count {
			spread.Home = append(spread.Home, 11-i)
		}
		plans := []impl.Plan{impl.Eliminate(2, edges, []int{0, 1}), impl.Eliminate(2, edges, []int{1, 0}), withWidths(edges, spread)}
		for _, p := range plans {
			got, worths := impl.Aggregate(2, tables, p, []int{0}, impl.RingSum)
			if !sameLists(got, [][]int{{1}, {4}}) || !slices.Equal(worths, []int{sum(3) + sum(-4), 0}) {
				t.Errorf("%d times: %v, %v", count, got, worths)
			}
			got, worths = impl.Aggregate(2, tables, p, nil, impl.RingMin)
			if !sameLists(got, [][]int{{}}) || !slices.Equal(worths, []int{-4 * count}) {
				t.Errorf("%d times: %v, %v", count, got, worths)
			}
			checkAnswers(t, 2, tables, p, allHeads(2)...)
		}
	}
}

func TestAnswersByEveryOrder(t *testing.T) {
	draw := rand.New(rand.NewSource(64))
	for k, count := range []int{3, 20, 40, 25, 4, 1} {
		for range count {
			edges := drawnPattern(draw, k, k+draw.Intn(8-k))
			tables := drawnTables(draw, edges, 14, edgeValues[draw.Intn(2):3])
			tables = reweighted(draw, tables, []int{-2, -1, 0, 1, 3})
			heads := someHeads(draw, k)
			if k <= 3 {
				heads = allHeads(k)
			}
			found := tryAnswers(k, tables)
			for _, order := range allOrders(k) {
				p := impl.Eliminate(k, edges, order)
				for _, head := range heads {
					checkEnumerate(t, k, tables, p, head, found)
					checkAggregate(t, k, tables, p, head, rings[draw.Intn(3)], found)
				}
			}
		}
	}
}

// Two plans that no order gives answer alike, by the answers alone.
func TestAnswersByDrawnPlans(t *testing.T) {
	draw := rand.New(rand.NewSource(65))
	weights := [][]int{
		{-2, -1, 0, 1, 3},
		{impl.MaxWeight, -impl.MaxWeight, 0, 999999},
		{math.MinInt, math.MaxInt, -1, 1 << 32, 3<<40 + 1, 0},
	}
	answered := 0
	for i := range 600 {
		k := draw.Intn(7)
		edges := drawnPattern(draw, k, k+draw.Intn(8-k))
		tables := drawnTables(draw, edges, 30, edgeValues[:2+draw.Intn(max(1, min(3, 4-k)))])
		tables = reweighted(draw, tables, weights[i%3])
		found := tryAnswers(k, tables)
		if len(found) > 1 {
			answered++
		}
		plans := []impl.Plan{rehung(draw, drawnTree(draw, k, edges)), rehung(draw, drawnTree(draw, k, edges))}
		for _, head := range someHeads(draw, k)[1:4] {
			for _, p := range plans {
				checkEnumerate(t, k, tables, p, head, found)
				checkAggregate(t, k, tables, p, head, impl.RingCount, found)
				checkAggregate(t, k, tables, p, head, impl.RingSum, found)
				if i%3 < 2 {
					checkAggregate(t, k, tables, p, head, impl.RingMin, found)
				}
			}
		}
	}
	if answered < 200 {
		t.Errorf("only %d with several answers", answered)
	}
}

// All plans of few small bags, whatever their parents, for one pattern.
func TestAnswersByAllSmallPlans(t *testing.T) {
	tables := []impl.Table{
		table([]int{0, 1}, [][]int{{1, 1}, {1, 2}, {2, 1}, {3, 3}}, 2, -3, 5, 7),
		table([]int{1}, [][]int{{1}, {2}}, 11, -13),
		table([]int{2}, [][]int{{0}, {8}}, 17, 1),
	}
	edges := varsOf(tables)
	found := tryAnswers(3, tables)
	valid := 0
	for count := 1; count <= 3; count++ {
		counters(count, 1, 7, func(bits []int) {
			bags := bagsOf(bits)
			counters(count, -1, count-1, func(parent []int) {
				p := plain(edges, bags, parent, firstHomes(edges, bags))
				if !impl.PlanOK(3, edges, p) {
					return
				}
				valid++
				checkReduce(t, 3, tables, p, found)
				for _, head := range [][]int{nil, {2, 0}, {1}} {
					checkEnumerate(t, 3, tables, p, head, found)
					checkAggregate(t, 3, tables, p, head, impl.RingSum, found)
				}
			})
		})
	}
	if valid < 40 {
		t.Errorf("only %d valid plans", valid)
	}
}

// Where the bags are too great, the answers are the same nevertheless.
func TestAnswersWhereBagsAreTooGreat(t *testing.T) {
	tables := append(separated(101), table(nil, [][]int{{}}, -3))
	edges := varsOf(tables)
	great := impl.Eliminate(3, edges, []int{0, 1, 2})
	if _, visits := impl.BagTables(3, tables, great); visits != -1 {
		t.Fatalf("%d visits", visits)
	}
	var want [][]int
	for i := range 101 {
		want = append(want, []int{i + 2, i})
	}
	if got := impl.Enumerate(3, tables, great, []int{2, 0}); !sameLists(got, want) {
		t.Error(got)
	}
	for _, order := range allOrders(3) {
		p := impl.Eliminate(3, edges, order)
		for ring, worth := range []int{0, 101, -3 * 2 * 5050, 2 - 3} {
			if ring == 0 {
				continue
			}
			if got, worths := impl.Aggregate(3, tables, p, nil, ring); !sameLists(got, [][]int{{}}) || !slices.Equal(worths, []int{worth}) {
				t.Error(order, ring, got, worths)
			}
		}
		got, worths := impl.Aggregate(3, tables, p, []int{1}, impl.RingSum)
		if len(got) != 101 || len(worths) != 101 || got[100][0] != 101 || worths[100] != -600 {
			t.Error(order, got, worths)
		}
	}
	// Another part, and an empty one.
	for _, n := range []int{0, 1, 5} {
		more := append(separated(101), numbersOf(3, n))
		p := impl.Eliminate(4, varsOf(more), []int{3, 0, 1, 2})
		if got := impl.Enumerate(4, more, p, []int{3}); len(got) != n {
			t.Error(n, got)
		}
		got, worths := impl.Aggregate(4, more, p, nil, impl.RingCount)
		if n == 0 && len(got) != 0 || n > 0 && !slices.Equal(worths, []int{101 * n}) {
			t.Error(n, got, worths)
		}
	}
	// A table without its row leaves no prefix in the join of all tables.
	none := append(separated(101), nothing())
	if got := impl.Enumerate(3, none, great, nil); len(got) != 0 {
		t.Error(got)
	}
}

func TestAggregateWraps(t *testing.T) {
	one := func(variable, weight int) impl.Table { return table([]int{variable}, [][]int{{5}}, weight) }
	two := func(variable, first, second int) impl.Table {
		return table([]int{variable}, [][]int{{5}, {6}}, first, second)
	}
	cases := []struct {
		name   string
		tables []impl.Table
		want   int
	}{
		{"2^32 times 2^32", []impl.Table{one(0, 1<<32), one(0, 1<<32)}, 0},
		{"2^32 times 2^31", []impl.Table{one(0, 1<<32), one(1, 1<<31)}, math.MinInt},
		{"the greatest twice", []impl.Table{one(0, math.MaxInt), one(0, math.MaxInt)}, 1},
		{"the least negated", []impl.Table{one(0, math.MinInt), one(1, -1)}, math.MinInt},
		{"the greatest and one", []impl.Table{two(0, math.MaxInt, 1)}, math.MinInt},
		{"the least twice", []impl.Table{two(0, math.MinInt, math.MinInt)}, 0},
		{"apart, sums that leave", []impl.Table{two(0, math.MaxInt, math.MaxInt), two(1, math.MaxInt, 2)}, -2},
		{"without variables", []impl.Table{two(0, 1<<62, 1<<62), table(nil, [][]int{{}}, 3)}, math.MinInt},
		{"ten to the 42nd", []impl.Table{one(0, 1e6), one(1, 1e6), one(2, 1e6), one(3, 1e6), one(4, 1e6), one(5, 1e6), one(0, 1e6)}, wrapped(productOf(slices.Repeat([]int{1000000}, 7)))},
	}
	for _, c := range cases {
		k := len(variablesOf(c.tables))
		edges := varsOf(c.tables)
		orders := allOrders(k)
		for _, order := range orders[:min(len(orders), 20)] {
			p := impl.Eliminate(k, edges, order)
			if got, worths := impl.Aggregate(k, c.tables, p, nil, impl.RingSum); !sameLists(got, [][]int{{}}) || !slices.Equal(worths, []int{c.want}) {
				t.Errorf("%s: %v, %v", c.name, got, worths)
			}
			checkAggregate(t, k, c.tables, p, upTo(k), impl.RingSum, tryAnswers(k, c.tables))
		}
	}
}

// Lists whose worth is 0, or whose weights cancel out, are told like others.
func TestAggregateOfZeroes(t *testing.T) {
	tables := []impl.Table{
		table([]int{0, 1}, [][]int{{1, 1}, {1, 2}, {2, 1}}, 4, -4, 0),
		table([]int{1}, [][]int{{1}, {2}}, 1, 1),
	}
	for _, order := range allOrders(2) {
		p := impl.Eliminate(2, varsOf(tables), order)
		got, worths := impl.Aggregate(2, tables, p, []int{0}, impl.RingSum)
		if !sameLists(got, [][]int{{1}, {2}}) || !slices.Equal(worths, []int{0, 0}) {
			t.Error(got, worths)
		}
		checkAnswers(t, 2, tables, p, allHeads(2)...)
	}
}

func TestAnswersAreNewMemory(t *testing.T) {
	tables := guardedTables([]impl.Table{weightedEdges(0, 1), weightedEdges(1, 2)})
	before := cloneTables(tables)
	p, head := guardedPlan(pathPlan()), guardedList([]int{2, 0})
	rows, worths := impl.Aggregate(3, tables, p, head, impl.RingSum)
	lists := impl.Enumerate(3, tables, p, head)
	want, wantWorths := cloneLists(rows), slices.Clone(worths)
	checkApart(t, append(slices.Concat(rows, lists), worths))
	checkOuterApart(t, [][][]int{rows, lists})
	again, worthsAgain := impl.Aggregate(3, tables, p, head, impl.RingSum)
	if !sameLists(again, want) || !slices.Equal(worthsAgain, wantWorths) || !sameLists(impl.Enumerate(3, tables, p, head), want) {
		t.Error("two answers share memory")
	}
	if !sameTables(tables, before) || !samePlan(p, pathPlan()) || !tablesHold(tables) || !planHolds(p) || !guardHolds(head) {
		t.Error("an argument was written into")
	}
}

// The answers come in one order, however often they are asked for.
func TestAnswersAreTheSameEachTime(t *testing.T) {
	draw := rand.New(rand.NewSource(66))
	edges := [][]int{{0, 1}, {1, 2}, {2, 3}, {0, 3}}
	tables := reweighted(draw, drawnTables(draw, edges, 60, upTo(6)), []int{math.MinInt, math.MaxInt, 1 << 40, -7})
	_, p := impl.BestPlan(4, edges)
	rows, worths := impl.Aggregate(4, tables, p, []int{3, 1}, impl.RingSum)
	if len(rows) < 10 {
		t.Fatalf("%d rows", len(rows))
	}
	for range 50 {
		again, worthsAgain := impl.Aggregate(4, tables, p, []int{3, 1}, impl.RingSum)
		if !sameLists(again, rows) || !slices.Equal(worthsAgain, worths) {
			t.Fatal("another answer to the same")
		}
	}
}
