package tests

import (
	"math"
	"math/rand"
	"slices"
	"testing"

	"loop.example/s01205/impl"
)

// checkBags holds the tables and the visits against 5.2 worked out plainly.
func checkBags(t *testing.T, k int, tables []impl.Table, p impl.Plan) {
	t.Helper()
	want, sum := tryBags(tables, p)
	given, plan := guardedTables(tables), guardedPlan(p)
	got, visits := impl.BagTables(k, given, plan)
	if !sameTables(got, want) || visits != sum {
		t.Fatalf("BagTables(%d, %v, %v) = %v, %d, want %v, %d", k, tables, p, got, visits, want, sum)
	}
	for i, x := range got {
		if !impl.TableOK(x) {
			t.Fatalf("the table of bag %v isn't OK: %v", p.Bags[i], x)
		}
	}
	spoilTables(t, got)
	if !sameTables(given, tables) || !samePlan(plan, p) || !tablesHold(given) || !planHolds(plan) {
		t.Fatalf("BagTables(%d, %v, %v) changed its arguments, or shares memory with them", k, tables, p)
	}
}

func checkNoBags(t *testing.T, name string, k int, tables []impl.Table, p impl.Plan) {
	t.Helper()
	tablesBefore, planBefore := cloneTables(tables), clonePlan(p)
	if got, visits := impl.BagTables(k, tables, p); len(got) != 0 || visits != -1 {
		t.Errorf("%s: %d tables and %d visits", name, len(got), visits)
	}
	if !sameTables(tables, tablesBefore) || !samePlan(p, planBefore) {
		t.Errorf("%s: an argument was changed", name)
	}
}

func TestBagTablesPinned(t *testing.T) {
	triangle := triangleTables()
	edges := varsOf(triangle)
	pair := tableOf([]int{0, 1}, []int{1, 2}, []int{1, 3}, []int{2, 3}, []int{3, 1})
	_, best := impl.BestPlan(3, edges)
	ones := func(vars []int, rows ...[]int) impl.Table {
		return table(vars, rows, slices.Repeat([]int{1}, len(rows))...)
	}
	graph := [][]int{{1, 2}, {1, 3}, {2, 3}, {3, 1}}
	two := [][]int{{0, 1}, {2}}
	twoPlan := plain(two, [][]int{{2}, {0, 1}}, []int{-1, -1}, []int{1, 0})
	cases := []struct {
		name   string
		k      int
		tables []impl.Table
		plan   impl.Plan
		want   []impl.Table
		visits int
	}{
		{"the triangle", 3, triangle, best, []impl.Table{ones([]int{0, 1, 2}, []int{1, 2, 3}), ones([]int{1, 2}, graph...), ones([]int{2}, []int{1}, []int{2}, []int{3})}, 18},
		{"the triangle in one bag", 3, triangle, plain(edges, [][]int{{0, 1, 2}}, []int{-1}, []int{0, 0, 0}), []impl.Table{ones([]int{0, 1, 2}, []int{1, 2, 3})}, 8},
		{"no bags and no tables", 0, nil, impl.Plan{Width: rat(0, 1)}, nil, 0},
		{"no bags and the empty row", 0, []impl.Table{unit()}, impl.Plan{Home: []int{-1}, Width: rat(0, 1)}, nil, 0},
		{"no bags and no empty row", 0, []impl.Table{nothing(), unit()}, impl.Plan{Home: []int{-1, -1}, Width: rat(0, 1)}, nil, 0},
		// A table that shares no variable with a bag has no say in it.
		{"an empty table beside a bag", 3, []impl.Table{pair, tableOf([]int{2})}, twoPlan, []impl.Table{ones([]int{2}), ones([]int{0, 1}, graph...)}, 7},
		{"an empty table in the other bag", 3, []impl.Table{tableOf([]int{0, 1}), tableOf([]int{2}, []int{5})}, twoPlan, []impl.Table{ones([]int{2}, []int{5}), ones([]int{0, 1})}, 1},
		{"the empty row beside", 3, []impl.Table{pair, tableOf([]int{2}, []int{5}), unit()}, plain(append(two, nil), [][]int{{2}, {0, 1}}, []int{-1, -1}, []int{1, 0, -1}), []impl.Table{ones([]int{2}, []int{5}), ones([]int{0, 1}, graph...)}, 8},
		{"no empty row beside", 3, []impl.Table{pair, tableOf([]int{2}, []int{5}), nothing()}, plain(append(two, nil), [][]int{{2}, {0, 1}}, []int{-1, -1}, []int{1, 0, -1}), []impl.Table{ones([]int{2}, []int{5}), ones([]int{0, 1}, graph...)}, 8},
		// A table of two variables narrows a bag that has one of them.
		{"shared in part", 2, []impl.Table{tableOf([]int{0, 1}, []int{1, 2}, []int{4, 2}), tableOf([]int{0}, []int{1}, []int{2}, []int{3})}, plain([][]int{{0, 1}, {0}}, [][]int{{0}, {0, 1}, {1}}, []int{1, 2, -1}, []int{1, 0}), []impl.Table{ones([]int{0}, []int{1}), ones([]int{0, 1}, []int{1, 2}), ones([]int{1}, []int{2})}, 4},
		{"bags that are alike", 2, []impl.Table{pair}, plain([][]int{{0, 1}}, [][]int{{0, 1}, {0, 1}}, []int{1, -1}, []int{0}), []impl.Table{ones([]int{0, 1}, graph...), ones([]int{0, 1}, graph...)}, 14},
	}
	for _, c := range cases {
		got, visits := impl.BagTables(c.k, c.tables, c.plan)
		if !sameTables(got, c.want) || visits != c.visits {
			t.Errorf("%s: %v, %d, want %v, %d", c.name, got, visits, c.want, c.visits)
		}
		checkBags(t, c.k, c.tables, c.plan)
	}
}

func TestBagTablesByEveryOrder(t *testing.T) {
	draw := rand.New(rand.NewSource(54))
	for k, count := range []int{3, 20, 60, 60, 20, 3} {
		for range count {
			edges := drawnPattern(draw, k, k+draw.Intn(8-k))
			tables := drawnTables(draw, edges, 12, []int{math.MinInt, 7, math.MaxInt})
			for _, order := range allOrders(k) {
				checkBags(t, k, tables, impl.Eliminate(k, edges, order))
			}
		}
	}
}

// Valid plans that no order gives: bags twice, bags that are grown, homes anywhere.
func TestBagTablesByDrawnPlans(t *testing.T) {
	draw := rand.New(rand.NewSource(55))
	for range 1000 {
		k := draw.Intn(7)
		edges := drawnPattern(draw, k, k+draw.Intn(8-k))
		tables := drawnTables(draw, edges, 12, upTo(3))
		p := drawnTree(draw, k, edges)
		if slices.ContainsFunc(p.Bags, func(bag []int) bool { return len(bag) > 5 }) {
			tables = drawnTables(draw, edges, 6, upTo(2))
		}
		checkBags(t, k, tables, p)
	}
}

func TestBagTablesByPlansThatArentOK(t *testing.T) {
	draw := rand.New(rand.NewSource(56))
	spoiled := 0
	for range 1500 {
		k := 1 + draw.Intn(3)
		edges := drawnPattern(draw, k, k+draw.Intn(3))
		tables := drawnTables(draw, edges, 5, upTo(3))
		p := drawnTree(draw, k, edges)
		spoilOnePlace(draw, &p)
		if oraclePlanOK(k, edges, p, widthsFor(edges)) {
			checkBags(t, k, tables, p)
		} else {
			checkNoBags(t, "a plan with one place changed", k, tables, p)
			spoiled++
		}
	}
	if spoiled < 500 {
		t.Errorf("only %d plans that aren't OK", spoiled)
	}
	tables := triangleTables()
	_, path := impl.BestPlan(3, pathEdges())
	for _, p := range []impl.Plan{{}, {Width: rat(0, 1)}, path, pathPlan()} {
		checkNoBags(t, "another pattern's plan", 3, tables, p)
	}
	// A plan for the same edges in another order of the tables has the wrong homes.
	checkNoBags(t, "tables that are turned round", 3, []impl.Table{edgesFor(1, 2), edgesFor(0, 1)}, pathPlan())
	checkBags(t, 3, []impl.Table{edgesFor(0, 1), edgesFor(1, 2)}, pathPlan())
	checkNoBags(t, "a table is missing", 3, []impl.Table{edgesFor(0, 1)}, pathPlan())
	checkNoBags(t, "a table too many", 3, []impl.Table{edgesFor(0, 1), edgesFor(1, 2), edgesFor(1, 2)}, pathPlan())
}

func TestBagTablesWithAnotherK(t *testing.T) {
	tables := triangleTables()
	_, p := impl.BestPlan(3, varsOf(tables))
	for _, k := range []int{0, 1, 2, 4, 5, 6, 7, -1, -3, math.MaxInt, math.MinInt} {
		checkNoBags(t, "another k", k, tables, p)
	}
	for _, k := range []int{-1, 1, 6, 7, math.MaxInt, math.MinInt} {
		checkNoBags(t, "no bags and another k", k, nil, impl.Plan{Width: rat(0, 1)})
		checkNoBags(t, "the empty row and another k", k, []impl.Table{unit()}, impl.Plan{Home: []int{-1}, Width: rat(0, 1)})
	}
	checkBags(t, 3, tables, p)
}

func TestBagTablesOfTablesThatArentOK(t *testing.T) {
	bad := badTables()
	// These have the variables that the plan is for, so the plan alone is right.
	bad["rows descend over 1 2"] = table([]int{1, 2}, [][]int{{2, 3}, {1, 2}}, 1, 1)
	bad["no weights over 1 2"] = table([]int{1, 2}, [][]int{{1, 2}, {2, 3}})
	bad["a short row over 1 2"] = table([]int{1, 2}, [][]int{{1, 2}, {2}}, 1, 1)
	bad["two empty rows"] = table(nil, [][]int{{}, {}}, 1, 1)
	for name, x := range bad {
		for place := range 3 {
			tables := slices.Insert([]impl.Table{edgesFor(0, 1), edgesFor(1, 2)}, place, x)
			edges := varsOf(tables)
			for k := range 7 {
				checkNoBags(t, name, k, tables, impl.Eliminate(k, edges, upTo(k)))
			}
			checkNoBags(t, name, 3, tables, pathPlan())
		}
		checkNoBags(t, name, 0, []impl.Table{x}, impl.Plan{Home: []int{-1}, Width: rat(0, 1)})
	}
	// Eight tables are no pattern, though Join would take them.
	many := slices.Repeat([]impl.Table{numbersOf(0, 2)}, 8)
	one := impl.Plan{Bags: [][]int{{0}}, Parent: []int{-1}, Home: slices.Repeat([]int{0}, 8), Widths: []impl.Rat{rat(1, 1)}, Width: rat(1, 1)}
	checkNoBags(t, "eight tables", 1, many, one)
	checkBags(t, 1, many[:7], impl.Eliminate(1, varsOf(many[:7]), []int{0}))
	checkNoBags(t, "eight empty rows", 0, slices.Repeat([]impl.Table{unit()}, 8), impl.Plan{Home: slices.Repeat([]int{-1}, 8), Width: rat(0, 1)})
}

// A join within that has too many prefixes leaves no table at all, at
// whichever bag it is, and just MaxTable of them are joined.
func TestBagTablesWithTooManyPrefixes(t *testing.T) {
	edges := [][]int{{0}, {1}, {2}}
	bags := [][][]int{{{0, 1}, {2}}, {{2}, {0, 1}}, {{0}, {0, 1}, {2}}, {{2}, {0, 1}, {1}}}
	parents := [][]int{{-1, -1}, {-1, -1}, {1, -1, -1}, {-1, 2, -1}}
	for i := range bags {
		p := plain(edges, bags[i], parents[i], firstHomes(edges, bags[i]))
		for _, sizes := range [][]int{{73, 137}, {137, 73}, {100, 101}} {
			tables := []impl.Table{numbersOf(0, sizes[0]), numbersOf(1, sizes[1]), numbersOf(2, 5)}
			checkNoBags(t, "more than 10000 pairs", 3, tables, p)
		}
		got, visits := impl.BagTables(3, []impl.Table{numbersOf(0, 100), numbersOf(1, 100), numbersOf(2, 5)}, p)
		want := 10100 + 5
		if len(p.Bags) == 3 {
			want += 100
		}
		if len(got) != len(p.Bags) || visits != want {
			t.Errorf("%v: %d tables and %d visits, want %d", p.Bags, len(got), visits, want)
		}
	}
	// By single bags the same tables have few prefixes.
	tables := []impl.Table{numbersOf(0, 10000), numbersOf(1, 10000), numbersOf(2, 5)}
	_, best := impl.BestPlan(3, edges)
	if got, visits := impl.BagTables(3, tables, best); len(got) != 3 || visits != 20005 {
		t.Errorf("%d tables and %d visits", len(got), visits)
	}
}

// The bag's order is that of its variables, also where another has fewer prefixes.
func TestBagTablesJoinInTheOrderOfTheBag(t *testing.T) {
	edges := [][]int{{0, 2}, {1, 2}}
	left, right := impl.Table{Vars: edges[0]}, impl.Table{Vars: edges[1]}
	for i := range 101 {
		left.Rows, left.Weights = append(left.Rows, []int{i, 1}), append(left.Weights, 1)
		right.Rows, right.Weights = append(right.Rows, []int{i, 2}), append(right.Weights, 1)
	}
	p := plain(edges, [][]int{{0, 1, 2}}, []int{-1}, []int{0, 0})
	checkNoBags(t, "prefixes of the first two", 3, []impl.Table{left, right}, p)
	left.Rows, left.Weights = left.Rows[:99], left.Weights[:99]
	if got, visits := impl.BagTables(3, []impl.Table{left, right}, p); len(got) != 1 || len(got[0].Rows) != 0 || visits != 99+9999 {
		t.Errorf("%d tables and %d visits", len(got), visits)
	}
}

func TestBagTablesAreNewMemory(t *testing.T) {
	tables := guardedTables(triangleTables())
	p := guardedPlan(plain(varsOf(tables), [][]int{{0, 1, 2}, {0, 1, 2}, {1, 2}}, []int{1, 2, -1}, []int{0, 2, 1}))
	planBefore := clonePlan(p)
	first, visits := impl.BagTables(3, tables, p)
	want := cloneTables(first)
	second, _ := impl.BagTables(3, tables, p)
	spoilTables(t, first)
	third, again := impl.BagTables(3, tables, p)
	if !sameTables(second, want) || !sameTables(third, want) || again != visits {
		t.Error("two answers share memory")
	}
	if !sameTables(tables, triangleTables()) || !samePlan(p, planBefore) || !tablesHold(tables) || !planHolds(p) {
		t.Error("an argument was written into")
	}
}
