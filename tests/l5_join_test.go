package tests

import (
	"math"
	"math/big"
	"math/rand"
	"slices"
	"testing"

	"loop.example/s01205/impl"
)

// checkJoin holds the rows and the visits against the oracle, and the
// arguments, also behind the ends of their lists, against what they were.
func checkJoin(t *testing.T, tables []impl.Table, order []int) {
	t.Helper()
	held := tryAll(tables, order)
	given, givenOrder := guardedTables(tables), guardedList(order)
	rows, visits := impl.Join(given, givenOrder)
	if !sameLists(rows, held[len(order)]) || visits != visitsOf(held) {
		t.Fatalf("Join(%v, %v) = %v, %d, want %v, %d", tables, order, rows, visits, held[len(order)], visitsOf(held))
	}
	checkApart(t, rows)
	checkOuterApart(t, [][][]int{rows})
	if !sameTables(given, tables) || !slices.Equal(givenOrder, order) || !tablesHold(given) || !guardHolds(givenOrder) {
		t.Fatalf("Join(%v, %v) changed its arguments, or shares memory with them", tables, order)
	}
}

// checkNoJoin asks for the fixed answer.
func checkNoJoin(t *testing.T, name string, tables []impl.Table, order []int) {
	t.Helper()
	tablesBefore, orderBefore := cloneTables(tables), slices.Clone(order)
	if rows, visits := impl.Join(tables, order); len(rows) != 0 || visits != -1 {
		t.Errorf("%s: %d rows and %d visits", name, len(rows), visits)
	}
	if !sameTables(tables, tablesBefore) || !slices.Equal(order, orderBefore) {
		t.Errorf("%s: an argument was changed", name)
	}
}

// edgesFor has the edges of a small graph, over two variables.
func edgesFor(a, b int) impl.Table {
	return tableOf([]int{a, b}, []int{1, 2}, []int{1, 3}, []int{2, 3}, []int{3, 1})
}

func triangleTables() []impl.Table {
	return []impl.Table{edgesFor(0, 1), edgesFor(1, 2), edgesFor(0, 2)}
}

func TestJoinPinned(t *testing.T) {
	low, high := math.MinInt, math.MaxInt
	ends := tableOf([]int{2, 4}, []int{low, high}, []int{-1, low}, []int{high, low}, []int{high, high})
	late := tableOf([]int{1}, []int{4}, []int{6})
	cases := []struct {
		name   string
		tables []impl.Table
		order  []int
		rows   [][]int
		visits int
	}{
		{"the triangle", triangleTables(), []int{0, 1, 2}, [][]int{{1, 2, 3}}, 8},
		{"the triangle from its end", triangleTables(), []int{2, 1, 0}, [][]int{{3, 2, 1}}, 8},
		{"no tables", nil, nil, [][]int{{}}, 0},
		{"no tables, lists that aren't nil", []impl.Table{}, []int{}, [][]int{{}}, 0},
		{"the empty row", []impl.Table{unit()}, nil, [][]int{{}}, 0},
		{"the empty row three times", []impl.Table{unit(), unit(), unit()}, nil, [][]int{{}}, 0},
		{"no empty row", []impl.Table{nothing()}, nil, nil, 0},
		{"the empty row and none", []impl.Table{unit(), nothing()}, nil, nil, 0},
		{"none and the empty row", []impl.Table{nothing(), unit()}, []int{}, nil, 0},
		{"one table", []impl.Table{edgesFor(0, 1)}, []int{0, 1}, [][]int{{1, 2}, {1, 3}, {2, 3}, {3, 1}}, 7},
		{"one table turned round", []impl.Table{edgesFor(0, 1)}, []int{1, 0}, [][]int{{1, 3}, {2, 1}, {3, 1}, {3, 2}}, 7},
		{"the empty row beside rows", []impl.Table{edgesFor(0, 1), unit()}, []int{0, 1}, [][]int{{1, 2}, {1, 3}, {2, 3}, {3, 1}}, 7},
		{"no empty row beside rows", []impl.Table{edgesFor(0, 1), nothing()}, []int{0, 1}, nil, 0},
		{"no empty row ahead of rows", []impl.Table{nothing(), edgesFor(0, 1)}, []int{0, 1}, nil, 0},
		{"one table without rows", []impl.Table{tableOf([]int{0, 1})}, []int{1, 0}, nil, 0},
		{"a table without rows over other variables", []impl.Table{edgesFor(0, 1), tableOf([]int{2})}, []int{0, 1, 2}, nil, 0},
		{"a table without rows, its variable first", []impl.Table{edgesFor(0, 1), tableOf([]int{2})}, []int{2, 1, 0}, nil, 0},
		{"a table without rows over the same variables", []impl.Table{edgesFor(0, 1), tableOf([]int{0, 1})}, []int{0, 1}, nil, 0},
		{"the second variable's table comes late", []impl.Table{edgesFor(0, 3), late}, []int{0, 3, 1}, [][]int{{1, 2, 4}, {1, 2, 6}, {1, 3, 4}, {1, 3, 6}, {2, 3, 4}, {2, 3, 6}, {3, 1, 4}, {3, 1, 6}}, 15},
		{"it comes first", []impl.Table{edgesFor(0, 3), late}, []int{1, 0, 3}, [][]int{{4, 1, 2}, {4, 1, 3}, {4, 2, 3}, {4, 3, 1}, {6, 1, 2}, {6, 1, 3}, {6, 2, 3}, {6, 3, 1}}, 16},
		{"prefixes that lead nowhere", []impl.Table{edgesFor(0, 1), tableOf([]int{1}, []int{9})}, []int{0, 1}, nil, 3},
		{"the same, from the other end", []impl.Table{edgesFor(0, 1), tableOf([]int{1}, []int{9})}, []int{1, 0}, nil, 0},
		{"the same table twice", []impl.Table{edgesFor(0, 1), edgesFor(0, 1)}, []int{0, 1}, [][]int{{1, 2}, {1, 3}, {2, 3}, {3, 1}}, 7},
		{"the same rows over two pairs", []impl.Table{edgesFor(0, 1), edgesFor(1, 2)}, []int{0, 1, 2}, [][]int{{1, 2, 3}, {1, 3, 1}, {2, 3, 1}, {3, 1, 2}, {3, 1, 3}}, 12},
		{"any ints", []impl.Table{ends, tableOf([]int{4}, []int{low}, []int{0}, []int{high})}, []int{2, 4}, [][]int{{low, high}, {-1, low}, {high, low}, {high, high}}, 7},
		{"any ints turned round", []impl.Table{ends, tableOf([]int{2}, []int{low}, []int{high})}, []int{4, 2}, [][]int{{low, high}, {high, low}, {high, high}}, 5},
	}
	for _, c := range cases {
		rows, visits := impl.Join(c.tables, c.order)
		if !sameLists(rows, c.rows) || visits != c.visits {
			t.Errorf("%s: %v, %d, want %v, %d", c.name, rows, visits, c.rows, c.visits)
		}
		checkJoin(t, c.tables, c.order)
	}
}

func TestJoinOfTooManyTables(t *testing.T) {
	for _, x := range []impl.Table{edgesFor(0, 1), tableOf([]int{0, 1}), unit(), nothing()} {
		order := upTo(len(x.Vars))
		checkJoin(t, slices.Repeat([]impl.Table{x}, impl.MaxAtoms), order)
		checkJoin(t, slices.Repeat([]impl.Table{x}, impl.MaxAtoms+1), order)
		for _, count := range []int{impl.MaxAtoms + 2, 50, 1000} {
			checkNoJoin(t, "too many tables", slices.Repeat([]impl.Table{x}, count), order)
		}
	}
}

func TestJoinByOrdersThatAreNone(t *testing.T) {
	orders := [][]int{
		nil, {}, {0}, {0, 1}, {1, 2}, {0, 2}, {0, 1, 2, 3}, {0, 1, 2, 0}, {0, 1, 2, 2}, {0, 1, 1}, {0, 0, 0}, {2, 1, 2},
		{0, 1, 3}, {3, 1, 2}, {1, 2, 3}, {0, 1, -1}, {-1, 0, 1}, {-1, 0, 1, 2}, {0, 1, 6}, {0, 1, 2, 6}, {0, 1, math.MaxInt}, {math.MinInt, 1, 2},
		{0, 1, 2, 3, 4, 5}, {0, 1, 2, 3, 4, 5, 6}, slices.Repeat([]int{0, 1, 2}, 40000),
	}
	for _, order := range orders {
		checkNoJoin(t, "the triangle", triangleTables(), order)
		checkNoJoin(t, "the triangle and an empty table", append(triangleTables(), nothing()), order)
		checkNoJoin(t, "tables without rows", []impl.Table{tableOf([]int{0, 1, 2}), tableOf([]int{1})}, order)
	}
	for _, order := range [][]int{{0}, {-1}, {6}, {0, 1}, {math.MinInt}} {
		checkNoJoin(t, "no tables", nil, order)
		checkNoJoin(t, "the empty row", []impl.Table{unit()}, order)
		checkNoJoin(t, "no empty row", []impl.Table{nothing()}, order)
	}
	// A variable in the middle that no table has, and one that is left out.
	apart := []impl.Table{edgesFor(0, 2), edgesFor(2, 5)}
	checkJoin(t, apart, []int{5, 0, 2})
	for _, order := range [][]int{{0, 1, 2}, {0, 2}, {0, 1, 2, 5}, {0, 2, 4}, {0, 1, 2, 3, 4, 5}} {
		checkNoJoin(t, "variables with gaps", apart, order)
	}
}

func TestJoinOfTablesThatArentOK(t *testing.T) {
	for name, x := range badTables() {
		for place := range 3 {
			tables := slices.Insert([]impl.Table{edgesFor(0, 1), edgesFor(1, 2)}, place, x)
			for _, order := range [][]int{{0, 1, 2}, {0, 1, 2, 3}, {0, 1, 2, 3, 4, 5}, {0, 1, 2, 6}, {-1, 0, 1, 2}} {
				checkNoJoin(t, name, tables, order)
			}
		}
		checkNoJoin(t, name, []impl.Table{x}, x.Vars)
		checkNoJoin(t, name, []impl.Table{x, nothing()}, x.Vars)
		checkNoJoin(t, name, []impl.Table{x}, nil)
	}
}

// Just MaxTable prefixes of one length are joined, 100 times 100, and one more
// are not, 73 times 137: at the full length, and at a shorter one.
func TestJoinOfTooManyPrefixes(t *testing.T) {
	full := func(m, n int) []impl.Table { return []impl.Table{numbersOf(0, m), numbersOf(1, n)} }
	pairs := func(a, b, n, value int) impl.Table {
		x := numbersOf(a, n)
		x.Vars = []int{a, b}
		for i := range x.Rows {
			x.Rows[i] = append(x.Rows[i], value)
		}
		return x
	}
	// 0 and 1 are free of each other, but no value of 2 fits both.
	dead := func(m, n int) []impl.Table { return []impl.Table{pairs(0, 2, m, 4), pairs(1, 2, n, 5)} }
	// The same, with one value of 2 that fits the last of each.
	thin := func(m, n int) []impl.Table {
		tables := dead(m, n)
		tables[0].Rows[m-1][1], tables[1].Rows[n-1][1] = 6, 6
		return tables
	}
	cases := []struct {
		name   string
		tables func(m, n int) []impl.Table
		order  []int
		rows   int
		visits int
	}{
		{"at the full length", full, []int{0, 1}, 10000, 10100},
		{"at the full length, the other order", full, []int{1, 0}, 10000, 10100},
		{"at a shorter length without rows", dead, []int{0, 1, 2}, 0, 10100},
		{"at a shorter length with few rows", thin, []int{0, 1, 2}, 1, 10101},
		{"at a shorter length, the other order", thin, []int{1, 0, 2}, 1, 10101},
	}
	for _, c := range cases {
		if rows, visits := impl.Join(c.tables(100, 100), c.order); len(rows) != c.rows || visits != c.visits {
			t.Errorf("%s: %d rows and %d visits", c.name, len(rows), visits)
		}
		for _, sizes := range [][]int{{73, 137}, {137, 73}, {100, 101}, {5000, 5000}} {
			tables := c.tables(sizes[0], sizes[1])
			checkNoJoin(t, c.name, tables, c.order)
			// The same tables are joined where the order lets few prefixes hold.
			if c.rows < 2 {
				if rows, visits := impl.Join(tables, []int{2, 0, 1}); len(rows) != c.rows || visits < 0 {
					t.Errorf("%s, by another order: %d rows and %d visits", c.name, len(rows), visits)
				}
			}
		}
	}
}

func TestJoinOfGreatTables(t *testing.T) {
	// 10000 of each length is not too many, however long the order.
	six := impl.Table{Vars: upTo(6)}
	for i := range 10000 {
		six.Rows = append(six.Rows, []int{i, 1, 2, 3, 4, 5})
		six.Weights = append(six.Weights, i)
	}
	if rows, visits := impl.Join([]impl.Table{six, six}, upTo(6)); !sameLists(rows, six.Rows) || visits != 60000 {
		t.Errorf("%d rows and %d visits", len(rows), visits)
	}
	if rows, visits := impl.Join([]impl.Table{six}, []int{5, 4, 3, 2, 1, 0}); len(rows) != 10000 || visits != 10005 {
		t.Errorf("%d rows and %d visits", len(rows), visits)
	}
	// One table alone has no more prefixes of one length than rows; one beside it makes them too many.
	checkNoJoin(t, "10001 rows", []impl.Table{numbersOf(0, 10000), tableOf([]int{1}, []int{1}, []int{2})}, []int{0, 1})
	if rows, visits := impl.Join([]impl.Table{numbersOf(0, 10000), tableOf([]int{1}, []int{1})}, []int{0, 1}); len(rows) != 10000 || visits != 20000 {
		t.Errorf("%d rows and %d visits", len(rows), visits)
	}
	// Far too many end as soon as they are too many.
	var all []impl.Table
	for v := range 6 {
		all = append(all, numbersOf(v, 10000))
	}
	checkNoJoin(t, "six times 10000", all, upTo(6))
	checkNoJoin(t, "six times 10000", all, []int{3, 5, 1, 0, 4, 2})
	// A table without rows keeps every prefix from holding, also where it comes last.
	if rows, visits := impl.Join(append(all, nothing()), upTo(6)); len(rows) != 0 || visits != 0 {
		t.Errorf("%d rows and %d visits", len(rows), visits)
	}
	all[5] = tableOf([]int{5})
	if rows, visits := impl.Join(all, upTo(6)); len(rows) != 0 || visits != 0 {
		t.Errorf("%d rows and %d visits", len(rows), visits)
	}
}

// Every order of the variables; the tables in every order where they are few.
func TestJoinInEveryOrder(t *testing.T) {
	draw := rand.New(rand.NewSource(51))
	values := []int{math.MinInt, -1, 0, 3, math.MaxInt}
	for range 150 {
		k := 1 + draw.Intn(3)
		tables := drawnTables(draw, drawnPattern(draw, k, 1+draw.Intn(4)+k/3), 9, values[draw.Intn(3):])
		for _, places := range allOrders(len(tables)) {
			var turned []impl.Table
			for _, place := range places {
				turned = append(turned, tables[place])
			}
			for _, order := range ordersOf(variablesOf(tables)) {
				checkJoin(t, turned, order)
			}
		}
	}
}

func TestJoinInEveryOrderOfManyVariables(t *testing.T) {
	draw := rand.New(rand.NewSource(57))
	for k := 4; k <= impl.MaxVars; k++ {
		for range 4 {
			edges := append(drawnPattern(draw, k, k), upTo(k))
			tables := drawnTables(draw, edges, 25, upTo(2))
			for _, order := range allOrders(k) {
				checkJoin(t, tables, order)
			}
		}
	}
}

func TestJoinOfDrawnTables(t *testing.T) {
	draw := rand.New(rand.NewSource(52))
	values := []int{math.MinInt, -1, 0, math.MaxInt}
	rows, none := 0, 0
	for range 1500 {
		var edges [][]int
		for range draw.Intn(9) {
			edge := setOf(draw.Intn(64))
			edges = append(edges, edge[:min(len(edge), draw.Intn(4))])
		}
		tables := drawnTables(draw, edges, 20, values[:2+draw.Intn(2)])
		order := variablesOf(tables)
		draw.Shuffle(len(order), func(i, j int) { order[i], order[j] = order[j], order[i] })
		checkJoin(t, tables, order)
		if found, _ := impl.Join(tables, order); len(found) > 0 {
			rows++
		} else {
			none++
		}
	}
	if rows < 50 || none < 50 {
		t.Errorf("%d joins with rows, %d without", rows, none)
	}
}

// withinPower: count is at most n to the power of width, exactly.
func withinPower(count, n int, width impl.Rat) bool {
	left := new(big.Int).Exp(big.NewInt(int64(count)), big.NewInt(int64(width.Den)), nil)
	right := new(big.Int).Exp(big.NewInt(int64(n)), big.NewInt(int64(width.Num)), nil)
	return left.Cmp(right) <= 0
}

// onto are the tables projected onto what they have of the variables.
func onto(tables []impl.Table, vars []int) []impl.Table {
	var out []impl.Table
	for _, x := range tables {
		var shared []int
		for _, v := range x.Vars {
			if slices.Contains(vars, v) {
				shared = append(shared, v)
			}
		}
		out = append(out, searchProject(x, shared))
	}
	return out
}

// checkBound holds the prefixes of each length against N^Width, and the visits
// against their sum: those of one length are the rows of a join of their own.
func checkBound(t *testing.T, tables []impl.Table, order []int) {
	t.Helper()
	_, visits := impl.Join(tables, order)
	if visits < 0 {
		t.Fatalf("Join answers -1 for the order %v", order)
	}
	width := impl.CoverOf(variablesOf(tables), varsOf(tables)).Width
	most := 1
	for _, x := range tables {
		most = max(most, len(x.Rows))
	}
	sum := 0
	for length := 1; length <= len(order); length++ {
		rows, _ := impl.Join(onto(tables, order[:length]), order[:length])
		sum += len(rows)
		if !withinPower(len(rows), most, width) {
			t.Fatalf("%d prefixes of length %d, for %d rows and width %v, of %v", len(rows), length, most, width, varsOf(tables))
		}
	}
	if sum != visits {
		t.Fatalf("%d visits, but %d prefixes, of %v in the order %v", visits, sum, varsOf(tables), order)
	}
}

func TestJoinWithinTheBound(t *testing.T) {
	draw := rand.New(rand.NewSource(53))
	for range 60 {
		k := 1 + draw.Intn(6)
		edges := drawnPattern(draw, k, k+draw.Intn(8-k))
		tables := drawnTables(draw, edges, 30, upTo(3))
		for range 4 {
			checkBound(t, tables, draw.Perm(k))
		}
	}
	for range 10 {
		var tables []impl.Table
		for _, edge := range [][]int{{0, 1}, {1, 2}, {2, 3}, {0, 3}} {
			tables = append(tables, drawnOver(draw, edge, 400, upTo(60)))
		}
		for _, order := range allOrders(4) {
			checkBound(t, tables, order)
		}
	}
}

// grid has all pairs of n values.
func grid(a, b, n int) impl.Table {
	var rows [][]int
	counters(2, 0, n-1, func(row []int) { rows = append(rows, row) })
	return tableOf([]int{a, b}, rows...)
}

// Full tables reach the bound: n*n rows for each side of a triangle make n*n*n
// rows, and those of a cycle of four n to the fourth.
func TestJoinReachesTheBound(t *testing.T) {
	triangle := []impl.Table{grid(0, 1, 21), grid(1, 2, 21), grid(0, 2, 21)}
	rows, visits := impl.Join(triangle, []int{1, 0, 2})
	if len(rows) != 9261 || visits != 21+441+9261 || withinPower(len(rows)+1, 441, rat(3, 2)) {
		t.Errorf("%d rows and %d visits", len(rows), visits)
	}
	checkBound(t, triangle, []int{2, 1, 0})
	square := []impl.Table{grid(0, 1, 10), grid(1, 2, 10), grid(2, 3, 10), grid(0, 3, 10)}
	rows, visits = impl.Join(square, []int{0, 2, 1, 3})
	if len(rows) != 10000 || visits != 11110 || withinPower(len(rows)+1, 100, rat(2, 1)) {
		t.Errorf("%d rows and %d visits", len(rows), visits)
	}
	square[2] = grid(2, 3, 11)
	square[3] = grid(0, 3, 11)
	checkNoJoin(t, "a value more", square, []int{0, 1, 2, 3})
}

func TestJoinIsNewMemory(t *testing.T) {
	tables, order := guardedTables(triangleTables()), guardedList([]int{0, 2, 1})
	first, visits := impl.Join(tables, order)
	want := cloneLists(first)
	second, _ := impl.Join(tables, order)
	checkApart(t, first)
	checkOuterApart(t, [][][]int{first})
	third, again := impl.Join(tables, order)
	if !sameLists(second, want) || !sameLists(third, want) || again != visits {
		t.Error("two answers share memory")
	}
	if !sameTables(tables, triangleTables()) || !tablesHold(tables) || !guardHolds(order) {
		t.Error("an argument was written into")
	}
	// Tables whose rows lie in one stretch of memory, and that share it.
	stretch := []int{1, 1, 1, 2, 2, 1}
	x := table([]int{0, 1}, [][]int{stretch[0:2], stretch[2:4], stretch[4:6]}, 3, 4, 5)
	y := table([]int{1, 2}, x.Rows, x.Weights...)
	rows, _ := impl.Join([]impl.Table{x, y}, []int{2, 1, 0})
	if !sameLists(rows, [][]int{{1, 1, 1}, {1, 1, 2}, {1, 2, 1}, {2, 1, 1}, {2, 1, 2}}) {
		t.Error(rows)
	}
	checkApart(t, rows)
	if !slices.Equal(stretch, []int{1, 1, 1, 2, 2, 1}) {
		t.Error("an argument was changed")
	}
}
