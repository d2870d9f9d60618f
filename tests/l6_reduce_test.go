package tests

import (
	"math"
	"math/rand"
	"slices"
	"testing"

	"loop.example/s01205/impl"
)

// edgeValues are drawn where any int may stand.
var edgeValues = []int{math.MinInt, -1, 0, math.MaxInt}

// ones is a table with weights 1.
func ones(vars []int, rows ...[]int) impl.Table {
	return table(vars, rows, slices.Repeat([]int{1}, len(rows))...)
}

// brokenChain joins pairwise in every bag, but not together.
func brokenChain() []impl.Table {
	return []impl.Table{
		tableOf([]int{0, 1}, []int{1, 2}),
		tableOf([]int{1, 2}, []int{2, 3}, []int{5, 6}),
		tableOf([]int{2, 3}, []int{3, 4}, []int{6, 7}),
		tableOf([]int{3, 4}, []int{7, 8}),
	}
}

// oddTriangle has two sides whose ends are equal, and one whose ends differ.
func oddTriangle() []impl.Table {
	same := [][]int{{0, 0}, {1, 1}}
	return []impl.Table{
		tableOf([]int{0, 1}, same...),
		tableOf([]int{1, 2}, same...),
		tableOf([]int{0, 2}, []int{0, 1}, []int{1, 0}),
	}
}

func TestReducePinned(t *testing.T) {
	path := []impl.Table{edgesFor(0, 1), tableOf([]int{1, 2}, []int{3, 1})}
	edges := varsOf(path)
	apart := [][]int{{0}, {1}}
	two := []impl.Table{tableOf([]int{0}, []int{4}, []int{6}), tableOf([]int{1}, []int{7})}
	apartPlan := plain(apart, [][]int{{0}, {1}}, []int{-1, -1}, []int{0, 1})
	withEmpty := append(slices.Clone(apart), nil)
	emptyPlan := plain(withEmpty, [][]int{{0}, {1}}, []int{-1, -1}, []int{0, 1, -1})
	chainEdges := varsOf(brokenChain())
	cases := []struct {
		name   string
		k      int
		tables []impl.Table
		plan   impl.Plan
		want   []impl.Table
	}{
		{"a path", 3, path, impl.Eliminate(3, edges, []int{0, 1, 2}), []impl.Table{ones([]int{0, 1}, []int{1, 3}, []int{2, 3}), ones([]int{1, 2}, []int{3, 1}), ones([]int{2}, []int{1})}},
		{"a path from its middle", 3, path, impl.Eliminate(3, edges, []int{1, 2, 0}), []impl.Table{ones([]int{0, 1, 2}, []int{1, 3, 1}, []int{2, 3, 1}), ones([]int{0, 2}, []int{1, 1}, []int{2, 1}), ones([]int{0}, []int{1}, []int{2})}},
		{"bags that are alike", 3, path, plain(edges, [][]int{{0, 1}, {0, 1}, {1, 2}, {1}}, []int{1, 3, 3, -1}, []int{1, 2}), []impl.Table{ones([]int{0, 1}, []int{1, 3}, []int{2, 3}), ones([]int{0, 1}, []int{1, 3}, []int{2, 3}), ones([]int{1, 2}, []int{3, 1}), ones([]int{1}, []int{3})}},
		{"two parts", 2, two, apartPlan, []impl.Table{ones([]int{0}, []int{4}, []int{6}), ones([]int{1}, []int{7})}},
		{"two parts in one tree", 2, two, plain(apart, [][]int{{0}, {1}}, []int{1, -1}, []int{0, 1}), []impl.Table{ones([]int{0}, []int{4}, []int{6}), ones([]int{1}, []int{7})}},
		{"an empty part", 2, []impl.Table{two[0], tableOf([]int{1})}, apartPlan, []impl.Table{ones([]int{0}), ones([]int{1})}},
		{"an empty first part", 2, []impl.Table{tableOf([]int{0}), two[1]}, apartPlan, []impl.Table{ones([]int{0}), ones([]int{1})}},
		{"the empty row", 2, []impl.Table{two[0], two[1], unit()}, emptyPlan, []impl.Table{ones([]int{0}, []int{4}, []int{6}), ones([]int{1}, []int{7})}},
		{"no empty row", 2, []impl.Table{two[0], two[1], nothing()}, emptyPlan, []impl.Table{ones([]int{0}), ones([]int{1})}},
		{"sides that join pairwise", 3, oddTriangle(), impl.Eliminate(3, varsOf(oddTriangle()), upTo(3)), []impl.Table{ones([]int{0, 1, 2}), ones([]int{1, 2}), ones([]int{2})}},
		{"a chain that breaks", 5, brokenChain(), plain(chainEdges, chainEdges, []int{1, 2, 3, -1}, upTo(4)), []impl.Table{ones([]int{0, 1}), ones([]int{1, 2}), ones([]int{2, 3}), ones([]int{3, 4})}},
		{"no bags", 0, []impl.Table{unit()}, impl.Plan{Home: []int{-1}, Width: rat(0, 1)}, nil},
		{"no bags and no tables", 0, nil, impl.Plan{Width: rat(0, 1)}, nil},
	}
	for _, c := range cases {
		if got := impl.Reduce(c.k, c.tables, c.plan); !sameTables(got, c.want) {
			t.Errorf("%s: %v, want %v", c.name, got, c.want)
		}
		checkReduce(t, c.k, c.tables, c.plan, tryAnswers(c.k, c.tables))
	}
	// The bags of the chain have rows before they are held against each other.
	bags, _ := impl.BagTables(5, brokenChain(), cases[len(cases)-3].plan)
	for i, x := range bags {
		if len(x.Rows) == 0 {
			t.Errorf("bag %d is empty", i)
		}
	}
}

func TestReduceByEveryOrder(t *testing.T) {
	draw := rand.New(rand.NewSource(61))
	for k, count := range []int{3, 30, 60, 60, 20, 3} {
		for range count {
			edges := drawnPattern(draw, k, k+draw.Intn(8-k))
			tables := drawnTables(draw, edges, 12, edgeValues[draw.Intn(2):3+draw.Intn(2)])
			found := tryAnswers(k, tables)
			for _, order := range allOrders(k) {
				checkReduce(t, k, tables, impl.Eliminate(k, edges, order), found)
			}
		}
	}
}

// Valid plans that no order gives: bags twice and within others, homes
// anywhere, parts that hang on each other though they share nothing.
func TestReduceByDrawnPlans(t *testing.T) {
	draw := rand.New(rand.NewSource(62))
	var several, shared, alike, rows int
	for range 1500 {
		k := draw.Intn(7)
		edges := drawnPattern(draw, k, k+draw.Intn(8-k))
		tables := drawnTables(draw, edges, 12, upTo(3))
		if k > 5 {
			tables = drawnTables(draw, edges, 30, upTo(2))
		}
		found := tryAnswers(k, tables)
		for range 2 {
			p := rehung(draw, drawnTree(draw, k, edges))
			checkReduce(t, k, tables, p, found)
			if len(found) > 0 {
				rows++
			}
			several += min(1, max(0, len(indexesOf(p.Parent, -1))-1))
			shared += sharingNothing(p)
			alike += alikeBags(p)
		}
	}
	if several < 50 || shared < 50 || alike < 50 || rows < 300 {
		t.Errorf("%d plans with several roots, %d bags that share nothing with their parents, %d that are alike, %d plans with answers", several, shared, alike, rows)
	}
}

func indexesOf(list []int, n int) []int {
	var places []int
	for i, x := range list {
		if x == n {
			places = append(places, i)
		}
	}
	return places
}

func sharingNothing(p impl.Plan) int {
	count := 0
	for i, parent := range p.Parent {
		if parent >= 0 && !slices.ContainsFunc(p.Bags[i], func(v int) bool { return slices.Contains(p.Bags[parent], v) }) {
			count++
		}
	}
	return count
}

func alikeBags(p impl.Plan) int {
	count := 0
	for i := range p.Bags {
		for j := range i {
			if slices.Equal(p.Bags[i], p.Bags[j]) {
				count++
			}
		}
	}
	return count
}

// separated has n rows for each side of a path from its middle, variable 0:
// one answer for each value of it, but n*n pairs for the other two alone.
func separated(n int) []impl.Table {
	a, b := impl.Table{Vars: []int{0, 1}}, impl.Table{Vars: []int{0, 2}}
	for i := range n {
		a.Rows, a.Weights = append(a.Rows, []int{i, i + 1}), append(a.Weights, 2)
		b.Rows, b.Weights = append(b.Rows, []int{i, i + 2}), append(b.Weights, i)
	}
	return []impl.Table{a, b}
}

// Where a bag has too many prefixes, Reduce gives no table at all, though the
// join of all tables has few; just MaxTable are reduced.
func TestReduceOfBagsThatAreTooGreat(t *testing.T) {
	tables := separated(101)
	edges := varsOf(tables)
	if rows, visits := impl.Join(tables, upTo(3)); len(rows) != 101 || visits != 303 {
		t.Fatalf("%d rows and %d visits", len(rows), visits)
	}
	great := impl.Eliminate(3, edges, []int{0, 1, 2})
	checkNoReduce(t, "101 * 101 pairs", 3, tables, great)
	small := impl.Eliminate(3, edges, []int{1, 2, 0})
	if got := impl.Reduce(3, tables, small); len(got) != 3 || len(got[0].Rows) != 101 || len(got[1].Rows) != 101 || len(got[2].Rows) != 101 {
		t.Error("the bags of the other order are small")
	}
	just := separated(100)
	bags, visits := impl.BagTables(3, just, great)
	if visits != 300+10100+100 || len(bags[1].Rows) != 10000 {
		t.Fatalf("%d visits", visits)
	}
	got := impl.Reduce(3, just, great)
	if len(got) != 3 || len(got[0].Rows) != 100 || len(got[1].Rows) != 100 || len(got[2].Rows) != 100 {
		t.Fatal("just 10000 pairs")
	}
	for i, row := range got[1].Rows {
		if !slices.Equal(row, []int{i + 1, i + 2}) {
			t.Fatal(row)
		}
	}
	// No answer at all, and yet a bag that is too great.
	none := []impl.Table{numbersOf(0, 101), numbersOf(1, 101), nothing()}
	checkNoReduce(t, "too great, and empty", 2, none, plain(varsOf(none), [][]int{{0, 1}}, []int{-1}, []int{0, 0, -1}))
	none = []impl.Table{numbersOf(0, 101), numbersOf(1, 101), tableOf([]int{2})}
	checkNoReduce(t, "too great beside an empty part", 3, none, plain(varsOf(none), [][]int{{0, 1}, {2}}, []int{-1, -1}, []int{0, 0, 1}))
}

func TestReduceIsNewMemory(t *testing.T) {
	tables := guardedTables(triangleTables())
	p := guardedPlan(plain(varsOf(tables), [][]int{{0, 1, 2}, {0, 1, 2}, {1, 2}}, []int{1, 2, -1}, []int{0, 2, 1}))
	planBefore := clonePlan(p)
	first := impl.Reduce(3, tables, p)
	want := cloneTables(first)
	second := impl.Reduce(3, tables, p)
	spoilTables(t, first)
	third := impl.Reduce(3, tables, p)
	if !sameTables(second, want) || !sameTables(third, want) {
		t.Error("two answers share memory")
	}
	if !sameTables(tables, triangleTables()) || !samePlan(p, planBefore) || !tablesHold(tables) || !planHolds(p) {
		t.Error("an argument was written into")
	}
}
