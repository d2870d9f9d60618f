package tests

import (
	"math"
	"math/rand"
	"slices"
	"testing"

	"loop.example/s01205/impl"
)

func TestAnswersOfTablesThatArentOK(t *testing.T) {
	bad := badTables()
	// These have the variables that the plan is for, so the plan alone is right.
	bad["rows descend over 1 2"] = table([]int{1, 2}, [][]int{{2, 3}, {1, 2}}, 1, 1)
	bad["rows alike over 1 2"] = table([]int{1, 2}, [][]int{{2, 3}, {2, 3}}, 1, 1)
	bad["no weights over 1 2"] = table([]int{1, 2}, [][]int{{1, 2}, {2, 3}})
	bad["a weight too many over 1 2"] = table([]int{1, 2}, [][]int{{2, 3}}, 1, 1)
	bad["a short row over 1 2"] = table([]int{1, 2}, [][]int{{1, 2}, {2}}, 1, 1)
	for name, x := range bad {
		for place := range 3 {
			tables := slices.Insert([]impl.Table{weightedEdges(0, 1), weightedEdges(1, 2)}, place, x)
			edges := varsOf(tables)
			for k := range 7 {
				checkNothing(t, name, k, tables, impl.Eliminate(k, edges, upTo(k)))
			}
			checkNothing(t, name, 3, tables, pathPlan())
		}
		checkNothing(t, name, 0, []impl.Table{x}, impl.Plan{Home: []int{-1}, Width: rat(0, 1)})
		checkNothing(t, name, 4, []impl.Table{x}, plain([][]int{{3}}, [][]int{{3}}, []int{-1}, []int{0}))
	}
	// Eight tables are no pattern, though Join would take them.
	many := slices.Repeat([]impl.Table{numbersOf(0, 2)}, 8)
	one := impl.Plan{Bags: [][]int{{0}}, Parent: []int{-1}, Home: slices.Repeat([]int{0}, 8), Widths: []impl.Rat{rat(1, 1)}, Width: rat(1, 1)}
	checkNothing(t, "eight tables", 1, many, one)
	checkNothing(t, "eight empty rows", 0, slices.Repeat([]impl.Table{unit()}, 8), impl.Plan{Home: slices.Repeat([]int{-1}, 8), Width: rat(0, 1)})
	checkAnswers(t, 1, many[:7], impl.Eliminate(1, varsOf(many[:7]), []int{0}), nil, []int{0})
	checkAnswers(t, 0, slices.Repeat([]impl.Table{unit()}, 7), impl.Plan{Home: slices.Repeat([]int{-1}, 7), Width: rat(0, 1)}, nil)
}

func TestAnswersByPlansThatArentOK(t *testing.T) {
	draw := rand.New(rand.NewSource(67))
	spoiled := 0
	for range 1500 {
		k := 1 + draw.Intn(3)
		edges := drawnPattern(draw, k, k+draw.Intn(3))
		tables := drawnTables(draw, edges, 20, upTo(3))
		p := drawnTree(draw, k, edges)
		spoilOnePlace(draw, &p)
		if oraclePlanOK(k, edges, p, widthsFor(edges)) {
			checkAnswers(t, k, tables, p, nil, draw.Perm(k))
		} else {
			checkNothing(t, "a plan with one place changed", k, tables, p)
			spoiled += min(1, len(tryAnswers(k, tables)))
		}
	}
	if spoiled < 300 {
		t.Errorf("only %d plans that aren't OK for tables with answers", spoiled)
	}
	tables := triangleTables()
	_, path := impl.BestPlan(3, pathEdges())
	for _, p := range []impl.Plan{{}, {Width: rat(0, 1)}, path, pathPlan()} {
		checkNothing(t, "another pattern's plan", 3, tables, p)
	}
	two := []impl.Table{weightedEdges(0, 1), weightedEdges(1, 2)}
	checkAnswers(t, 3, two, pathPlan(), allHeads(3)...)
	checkNothing(t, "tables that are turned round", 3, []impl.Table{two[1], two[0]}, pathPlan())
	checkNothing(t, "a table is missing", 3, two[:1], pathPlan())
	checkNothing(t, "a table too many", 3, []impl.Table{two[0], two[1], two[1]}, pathPlan())
	for _, width := range []impl.Rat{{}, {Num: 1}, {Num: 2, Den: 2}, {Num: -1, Den: -1}, {Num: math.MinInt, Den: math.MaxInt}} {
		p := pathPlan()
		p.Widths[1] = width
		checkNothing(t, "a width that is no number", 3, two, p)
		p = pathPlan()
		p.Width = width
		checkNothing(t, "no greatest width", 3, two, p)
	}
}

func TestAnswersWithAnotherK(t *testing.T) {
	tables := []impl.Table{weightedEdges(0, 1), weightedEdges(1, 2)}
	for _, k := range []int{0, 1, 2, 4, 5, 6, 7, -1, -3, math.MaxInt, math.MinInt} {
		checkNothing(t, "another k", k, tables, pathPlan())
	}
	for _, k := range []int{-1, 1, 6, 7, math.MaxInt, math.MinInt} {
		checkNothing(t, "no tables and another k", k, nil, impl.Plan{Width: rat(0, 1)})
		checkNothing(t, "the empty row and another k", k, []impl.Table{unit()}, impl.Plan{Home: []int{-1}, Width: rat(0, 1)})
	}
}

func TestAnswersOfHeadsThatAreNone(t *testing.T) {
	tables := []impl.Table{weightedEdges(0, 1), weightedEdges(1, 2)}
	heads := [][]int{
		{3}, {-1}, {4}, {5}, {6}, {math.MaxInt}, {math.MinInt}, {0, 3}, {-1, 0}, {0, 1, 2, 3},
		{0, 0}, {2, 2}, {0, 1, 0}, {0, 1, 1}, {2, 1, 0, 2}, {0, 1, 2, 0, 1, 2}, slices.Repeat([]int{1}, 100000),
	}
	for _, head := range heads {
		for _, p := range []impl.Plan{pathPlan(), impl.Eliminate(3, pathEdges(), []int{1, 0, 2})} {
			checkNoLists(t, "a head that is none", 3, tables, p, head)
		}
	}
	bare := impl.Plan{Home: []int{-1}, Width: rat(0, 1)}
	for _, v := range []int{0, -1, 1, math.MaxInt} {
		checkNoLists(t, "no variables", 0, []impl.Table{unit()}, bare, []int{v})
	}
	// The same where the bags are too great.
	great := impl.Eliminate(3, varsOf(separated(101)), []int{0, 1, 2})
	for _, head := range heads {
		checkNoLists(t, "great bags and a head that is none", 3, separated(101), great, head)
	}
}

func TestAggregateOfOtherRings(t *testing.T) {
	tables := []impl.Table{weightedEdges(0, 1), weightedEdges(1, 2)}
	for _, ring := range []int{impl.RingNone, 4, 5, -1, -2, 7, 1 << 32, 1<<32 + 1, math.MaxInt, math.MinInt} {
		for _, head := range allHeads(3) {
			checkNoWorths(t, "no ring", 3, tables, pathPlan(), head, ring)
		}
		checkNoWorths(t, "no ring", 0, nil, impl.Plan{Width: rat(0, 1)}, nil, ring)
	}
	for _, ring := range rings {
		if got, worths := impl.Aggregate(3, tables, pathPlan(), nil, ring); len(got) != 1 || len(worths) != 1 {
			t.Error(ring, got, worths)
		}
	}
}

// For RingMin every weight is bounded, also that of a row without an answer.
func TestAggregateOfWeightsBeyondTheLeast(t *testing.T) {
	for _, weight := range []int{impl.MaxWeight, -impl.MaxWeight, impl.MaxWeight + 1, -impl.MaxWeight - 1, math.MaxInt, math.MinInt} {
		within := weight == impl.MaxWeight || weight == -impl.MaxWeight
		for place := range 7 {
			tables := []impl.Table{
				table([]int{0, 1}, [][]int{{1, 1}, {1, 2}, {9, 9}}, 3, 4, 5),
				table([]int{1}, [][]int{{1}, {2}, {8}}, 6, 7, 8),
				table(nil, [][]int{{}}, 9),
			}
			tables[place/3].Weights[place%3] = weight
			edges := varsOf(tables)
			found := tryAnswers(2, tables)
			for _, p := range []impl.Plan{impl.Eliminate(2, edges, []int{0, 1}), impl.Eliminate(2, edges, []int{1, 0})} {
				for _, head := range allHeads(2) {
					if within {
						checkAggregate(t, 2, tables, p, head, impl.RingMin, found)
					} else {
						checkNoWorths(t, "too great a weight", 2, tables, p, head, impl.RingMin)
					}
					checkAggregate(t, 2, tables, p, head, impl.RingCount, found)
					checkAggregate(t, 2, tables, p, head, impl.RingSum, found)
					checkEnumerate(t, 2, tables, p, head, found)
				}
				checkReduce(t, 2, tables, p, found)
			}
		}
	}
	// The sum of seven weights, either way.
	for _, weight := range []int{impl.MaxWeight, -impl.MaxWeight} {
		tables := slices.Repeat([]impl.Table{table([]int{0}, [][]int{{1}}, weight)}, 7)
		p := impl.Eliminate(1, varsOf(tables), []int{0})
		if got, worths := impl.Aggregate(1, tables, p, []int{0}, impl.RingMin); len(got) != 1 || !slices.Equal(worths, []int{7 * weight}) {
			t.Error(got, worths)
		}
	}
	// Without any answer the weights count as well, but there's nothing to tell.
	none := []impl.Table{table([]int{0}, [][]int{{1}}, 1), table([]int{0}, [][]int{{2}}, 1)}
	if got, worths := impl.Aggregate(1, none, impl.Eliminate(1, varsOf(none), []int{0}), nil, impl.RingMin); len(got) != 0 || len(worths) != 0 {
		t.Error(got, worths)
	}
}

// cross has tables of one variable each, so that every choice is an answer.
func cross(sizes ...int) []impl.Table {
	var tables []impl.Table
	for v, n := range sizes {
		tables = append(tables, numbersOf(v, n))
	}
	return tables
}

// In the join of all tables just MaxTable prefixes of one length are taken,
// and one more gives the fixed answers, though each bag has few rows.
func TestAnswersWithTooManyPrefixes(t *testing.T) {
	for _, sizes := range [][]int{{73, 137}, {137, 73}, {101, 100}, {10000, 2}, {73, 137, 1}, {1, 73, 137}, {22, 22, 22}, {10, 10, 10, 11}, {5, 5, 5, 5, 5, 5}} {
		tables := cross(sizes...)
		k := len(sizes)
		_, p := impl.BestPlan(k, varsOf(tables))
		if _, visits := impl.BagTables(k, tables, p); visits < 0 {
			t.Fatalf("the bags of %v are too great", sizes)
		}
		checkNothing(t, "more than 10000 prefixes", k, tables, p)
		checkNothing(t, "more than 10000 prefixes, and the empty row", k, append(tables[:k:k], unit()), withHome(p, -1))
		// Without its row a table leaves no prefix at all.
		checkEmptied(t, k, append(tables[:k:k], nothing()), withHome(p, -1))
	}
	for _, sizes := range [][]int{{100, 100}, {10000}, {1, 10000}, {10000, 1}, {10, 10, 100}, {10, 10, 10, 10}, {4, 5, 5, 5, 5, 4}} {
		tables := cross(sizes...)
		k := len(sizes)
		_, p := impl.BestPlan(k, varsOf(tables))
		if got := impl.Reduce(k, tables, p); len(got) != k {
			t.Errorf("%v: %d tables", sizes, len(got))
		}
		lists := impl.Enumerate(k, tables, p, upTo(k))
		if len(lists) != 10000 || !slices.IsSortedFunc(lists, slices.Compare) {
			t.Errorf("%v: %d lists", sizes, len(lists))
		}
		if got, worths := impl.Aggregate(k, tables, p, nil, impl.RingCount); len(got) != 1 || !slices.Equal(worths, []int{10000}) {
			t.Errorf("%v: %v, %v", sizes, got, worths)
		}
		if got, worths := impl.Aggregate(k, tables, p, []int{k - 1}, impl.RingSum); len(got) != sizes[k-1] || worths[0] != 10000/sizes[k-1] {
			t.Errorf("%v: %v, %v", sizes, got, worths)
		}
	}
}

func withHome(p impl.Plan, home int) impl.Plan {
	p = clonePlan(p)
	p.Home = append(p.Home, home)
	return p
}

func checkEmptied(t *testing.T, k int, tables []impl.Table, p impl.Plan) {
	t.Helper()
	got := impl.Reduce(k, tables, p)
	if len(got) != len(p.Bags) {
		t.Errorf("%d tables for %d bags", len(got), len(p.Bags))
	}
	for i, x := range got {
		if !slices.Equal(x.Vars, p.Bags[i]) || len(x.Rows) != 0 || len(x.Weights) != 0 {
			t.Errorf("%d rows over %v", len(x.Rows), x.Vars)
		}
	}
	checkNoLists(t, "an emptied join", k, tables, p, []int{0})
}

// The order of the variables counts, also where the last of them leaves few answers.
func TestAnswersOfPrefixesInTheOrderOfTheVariables(t *testing.T) {
	star := func(middle, left, right, n int) []impl.Table {
		var tables []impl.Table
		for _, side := range []int{left, right} {
			x := impl.Table{Vars: []int{min(side, middle), max(side, middle)}}
			for i := range n {
				row := []int{i, 1}
				if middle < side {
					row = []int{1, i}
				}
				x.Rows, x.Weights = append(x.Rows, row), append(x.Weights, 1)
			}
			tables = append(tables, x)
		}
		return append(tables, tableOf([]int{0, 1, 2}, []int{1, 1, 1}, []int{2, 2, 2}))
	}
	// With a third table that allows two prefixes there are never too many.
	for middle := range 3 {
		sides := slices.DeleteFunc(upTo(3), func(v int) bool { return v == middle })
		tables := star(middle, sides[0], sides[1], 101)
		for _, order := range allOrders(3) {
			checkEnumerate(t, 3, tables, impl.Eliminate(3, varsOf(tables), order), []int{2, 1, 0}, []answer{{[]int{1, 1, 1}, nil}})
		}
		two := tables[:2]
		p := impl.Eliminate(3, varsOf(two), []int{sides[0], sides[1], middle})
		checkNothing(t, "a star of 101 * 101 answers", 3, two, p)
	}
	// The two sides have few values of the middle in common: one, and that for one value of the first.
	late := func(n int) []impl.Table {
		a, b := impl.Table{Vars: []int{0, 2}}, impl.Table{Vars: []int{1, 2}}
		for i := range n {
			a.Rows, a.Weights = append(a.Rows, []int{i, 1}), append(a.Weights, 1)
			b.Rows, b.Weights = append(b.Rows, []int{i, 2}), append(b.Weights, 1)
		}
		a.Rows[n-1] = []int{n - 1, 2}
		return []impl.Table{a, b}
	}
	p := impl.Eliminate(3, [][]int{{0, 2}, {1, 2}}, []int{0, 1, 2})
	if _, visits := impl.BagTables(3, late(101), p); visits < 0 {
		t.Fatal("the bags are too great")
	}
	checkNothing(t, "prefixes of the first two variables", 3, late(101), p)
	if got := impl.Enumerate(3, late(100), p, []int{2, 0}); !sameLists(got, [][]int{{2, 99}}) {
		t.Error(got)
	}
	if got, worths := impl.Aggregate(3, late(100), p, nil, impl.RingCount); len(got) != 1 || !slices.Equal(worths, []int{100}) {
		t.Error(got, worths)
	}
}

// The greatest tables under the longest plans.
func TestAnswersOfGreatTables(t *testing.T) {
	var x impl.Table
	x.Vars = upTo(6)
	for i := range 10000 {
		x.Rows = append(x.Rows, []int{i / 1000, i / 100, i / 10, i, i % 10, i % 100})
		x.Weights = append(x.Weights, i)
	}
	tables := slices.Repeat([]impl.Table{x}, 7)
	bags, parent := chain(12, upTo(6)...)
	p := plain(varsOf(tables), bags, parent, []int{0, 2, 4, 6, 8, 10, 11})
	lists := impl.Enumerate(6, tables, p, []int{5, 4, 3, 2, 1, 0})
	if len(lists) != 10000 || !slices.IsSortedFunc(lists, slices.Compare) {
		t.Errorf("%d lists", len(lists))
	}
	got, worths := impl.Aggregate(6, tables, p, []int{0}, impl.RingMin)
	if len(got) != 10 || worths[0] != 0 || worths[3] != 7*3000 {
		t.Error(got, worths)
	}
	reduced := impl.Reduce(6, tables, p)
	if len(reduced) != 12 || !sameLists(reduced[0].Rows, x.Rows) || !sameLists(reduced[11].Rows, x.Rows) {
		t.Errorf("%d tables", len(reduced))
	}
}
