package tests

import (
	"math/rand"
	"slices"
	"testing"

	"loop.example/s01205/impl"
)

func sameTables(a, b []impl.Table) bool { return slices.EqualFunc(a, b, sameTable) }

func cloneTables(tables []impl.Table) []impl.Table {
	var out []impl.Table
	for _, x := range tables {
		out = append(out, cloneTable(x))
	}
	return out
}

// tableOf sorts the rows, keeps each once, and gives them weights that aren't 1.
func tableOf(vars []int, rows ...[]int) impl.Table {
	x := impl.Table{Vars: slices.Clone(vars), Rows: cloneLists(rows)}
	slices.SortFunc(x.Rows, slices.Compare)
	x.Rows = slices.CompactFunc(x.Rows, slices.Equal)
	for i := range x.Rows {
		x.Weights = append(x.Weights, 7-3*i)
	}
	return x
}

// numbersOf has one variable and the values 0 up to n-1.
func numbersOf(variable, n int) impl.Table {
	rows, weights := countedRows(n)
	return table([]int{variable}, rows, weights...)
}

// unit and nothing are the two tables without variables.
func unit() impl.Table { return table(nil, [][]int{{}}, 9) }

func nothing() impl.Table { return impl.Table{} }

func varsOf(tables []impl.Table) [][]int {
	var edges [][]int
	for _, x := range tables {
		edges = append(edges, slices.Clone(x.Vars))
	}
	return edges
}

// variablesOf are those that the tables have, ascending.
func variablesOf(tables []impl.Table) []int {
	all := slices.Concat(varsOf(tables)...)
	slices.Sort(all)
	return slices.Compact(all)
}

// ordersOf are all orders of a set.
func ordersOf(set []int) [][]int {
	var orders [][]int
	for _, places := range allOrders(len(set)) {
		var order []int
		for _, place := range places {
			order = append(order, set[place])
		}
		orders = append(orders, order)
	}
	return orders
}

// drawnOver draws up to the given number of rows from the values.
func drawnOver(draw *rand.Rand, vars []int, most int, values []int) impl.Table {
	var rows [][]int
	for range draw.Intn(most + 1) {
		var row []int
		for range vars {
			row = append(row, values[draw.Intn(len(values))])
		}
		rows = append(rows, row)
	}
	return tableOf(vars, rows...)
}

func drawnTables(draw *rand.Rand, edges [][]int, most int, values []int) []impl.Table {
	var tables []impl.Table
	for _, edge := range edges {
		tables = append(tables, drawnOver(draw, edge, most, values))
	}
	return tables
}

// guardedTables have marked room behind the end of each of their lists.
func guardedTables(tables []impl.Table) []impl.Table {
	out := make([]impl.Table, 0, len(tables)+1)
	for _, x := range tables {
		out = append(out, impl.Table{Vars: guardedList(x.Vars), Rows: guarded(x.Rows), Weights: guardedList(x.Weights)})
	}
	return append(out, numbersOf(0, 1))[:len(tables)]
}

func tablesHold(tables []impl.Table) bool {
	for _, x := range tables {
		if !guardHolds(x.Vars) || !guardsHold(x.Rows) || !guardHolds(x.Weights) {
			return false
		}
	}
	return sameTable(tables[:len(tables)+1][len(tables)], numbersOf(0, 1))
}

func guardedPlan(p impl.Plan) impl.Plan {
	p.Bags, p.Parent, p.Home = guarded(p.Bags), guardedList(p.Parent), guardedList(p.Home)
	p.Widths = append(slices.Clone(p.Widths), rat(guard, guard))[:len(p.Widths)]
	return p
}

func planHolds(p impl.Plan) bool {
	return guardsHold(p.Bags) && guardHolds(p.Parent) && guardHolds(p.Home) &&
		p.Widths[:len(p.Widths)+1][len(p.Widths)] == rat(guard, guard)
}

// spoilTables overwrites all memory of an answer; no two lists of it may share any.
func spoilTables(t *testing.T, tables []impl.Table) {
	t.Helper()
	var inner [][]int
	var outer [][][]int
	for _, x := range tables {
		inner = append(append(inner, x.Rows...), x.Vars, x.Weights)
		outer = append(outer, x.Rows)
	}
	checkApart(t, inner)
	checkOuterApart(t, outer)
	for i := range tables[:cap(tables)] {
		tables[:cap(tables)][i] = impl.Table{}
	}
}
