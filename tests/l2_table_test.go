package tests

import (
	"math"
	"math/rand"
	"slices"
	"testing"

	"loop.example/s01205/impl"
)

func table(vars []int, rows [][]int, weights ...int) impl.Table {
	return impl.Table{Vars: vars, Rows: rows, Weights: weights}
}

func countedTable(n int) impl.Table {
	rows, weights := countedRows(n)
	return table([]int{3}, rows, weights...)
}

func goodTables() map[string]impl.Table {
	low, high := math.MinInt, math.MaxInt
	return map[string]impl.Table{
		"nothing":            {},
		"no variables":       table([]int{}, [][]int{}),
		"the empty row":      table(nil, [][]int{{}}, 5),
		"the nil row":        table(nil, [][]int{nil}, low),
		"no rows":            table([]int{0, 5}, nil),
		"all variables":      table([]int{0, 1, 2, 3, 4, 5}, [][]int{{1, 2, 3, 4, 5, 6}}, 1),
		"any ints":           table([]int{2, 4}, [][]int{{low, high}, {-1, low}, {0, 0}, {high, low}, {high, high}}, low, -1, 0, 1, high),
		"10000 rows":         countedTable(10000),
		"sorted by the last": table([]int{0, 1}, [][]int{{1, 1}, {1, 2}, {2, 0}}, 1, 1, 1),
	}
}

func badTables() map[string]impl.Table {
	return map[string]impl.Table{
		"10001 rows":           countedTable(10001),
		"variable -1":          table([]int{-1}, nil),
		"variable 6":           table([]int{0, 6}, nil),
		"least variable":       table([]int{math.MinInt}, nil),
		"greatest variable":    table([]int{math.MaxInt}, nil),
		"variables descend":    table([]int{1, 0}, nil),
		"variables alike":      table([]int{1, 1}, nil),
		"seven variables":      table([]int{0, 1, 2, 3, 4, 5, 6}, nil),
		"rows descend":         table([]int{0, 1}, [][]int{{1, 2}, {1, 1}}, 1, 1),
		"last row descends":    table([]int{0}, [][]int{{1}, {3}, {2}}, 1, 1, 1),
		"rows alike":           table([]int{0, 1}, [][]int{{1, 2}, {1, 2}}, 1, 2),
		"two empty rows":       table(nil, [][]int{{}, {}}, 1, 1),
		"a value of nothing":   table(nil, [][]int{{1}}, 1),
		"a shorter row":        table([]int{0, 1}, [][]int{{1}, {1, 2}}, 1, 1),
		"a longer row":         table([]int{0, 1}, [][]int{{1, 2}, {1, 2, 3}}, 1, 1),
		"an empty row":         table([]int{0}, [][]int{{}}, 1),
		"fewer weights":        table([]int{0}, [][]int{{1}, {2}}, 1),
		"more weights":         table([]int{0}, [][]int{{1}, {2}}, 1, 2, 3),
		"weights without rows": table([]int{0}, nil, 1),
		"rows without weights": table([]int{0}, [][]int{{1}}),
		"weights of nothing":   table(nil, nil, 1),
	}
}

func TestTableOK(t *testing.T) {
	other := table([]int{0}, [][]int{{1}}, 1)
	for name, x := range goodTables() {
		before := cloneTable(x)
		if !impl.TableOK(x) {
			t.Errorf("%s: should be OK", name)
		}
		if got := impl.Semijoin(x, x); !sameTable(got, x) {
			t.Errorf("%s, reduced by itself: %v", name, got)
		}
		ones := slices.Repeat([]int{1}, len(x.Rows))
		if got := impl.Project(x, x.Vars); !sameTable(got, impl.Table{Vars: x.Vars, Rows: x.Rows, Weights: ones}) {
			t.Errorf("%s, projected onto all: %v", name, got)
		}
		if !sameTable(x, before) {
			t.Errorf("%s: the argument was changed", name)
		}
	}
	for name, x := range badTables() {
		before := cloneTable(x)
		if impl.TableOK(x) {
			t.Errorf("%s: shouldn't be OK", name)
		}
		answers := []impl.Table{impl.Project(x, nil), impl.Project(x, x.Vars), impl.Project(x, []int{0}), impl.Semijoin(x, other), impl.Semijoin(other, x), impl.Semijoin(x, x)}
		for i, got := range answers {
			if !noTable(got) {
				t.Errorf("%s: answer %d is %v", name, i, got)
			}
		}
		if !sameTable(x, before) {
			t.Errorf("%s: the argument was changed", name)
		}
	}
}

func TestProjectPinned(t *testing.T) {
	x := table([]int{0, 2, 3}, [][]int{{1, 1, 5}, {1, 2, 5}, {2, 1, 4}}, 7, 8, 9)
	unit, none := table(nil, [][]int{{}}, 1), table(nil, nil)
	cases := []struct {
		from impl.Table
		vars []int
		want impl.Table
	}{
		{x, []int{0}, table([]int{0}, [][]int{{1}, {2}}, 1, 1)},
		{x, []int{2}, table([]int{2}, [][]int{{1}, {2}}, 1, 1)},
		{x, []int{3}, table([]int{3}, [][]int{{4}, {5}}, 1, 1)},
		{x, []int{2, 3}, table([]int{2, 3}, [][]int{{1, 4}, {1, 5}, {2, 5}}, 1, 1, 1)},
		{x, []int{0, 3}, table([]int{0, 3}, [][]int{{1, 5}, {2, 4}}, 1, 1)},
		{x, []int{}, unit},
		{x, nil, unit},
		{table([]int{4}, nil), nil, none},
		{table([]int{4}, nil), []int{4}, table([]int{4}, nil)},
		{table(nil, [][]int{{}}, 9), nil, unit},
		{none, nil, none},
		{x, []int{1}, none},
		{x, []int{0, 1}, none},
		{x, []int{0, 2, 3, 4}, none},
		{x, []int{3, 2}, none},
		{x, []int{0, 0}, none},
		{x, []int{-1}, none},
		{x, []int{6}, none},
		{x, []int{math.MinInt, 0}, none},
		{x, []int{0, math.MaxInt}, none},
		{none, []int{0}, none},
		{unit, []int{0}, none},
	}
	for _, c := range cases {
		if got := impl.Project(c.from, c.vars); !sameTable(got, c.want) {
			t.Errorf("Project(%v, %v) = %v, want %v", c.from, c.vars, got, c.want)
		}
	}
}

func TestSemijoinPinned(t *testing.T) {
	x := table([]int{0, 2, 3}, [][]int{{1, 1, 5}, {1, 2, 5}, {2, 1, 4}}, 7, -8, 0)
	unit, none := table(nil, [][]int{{}}, -4), table(nil, nil)
	cases := []struct{ a, b, want impl.Table }{
		{x, table([]int{2}, [][]int{{1}}, 0), table([]int{0, 2, 3}, [][]int{{1, 1, 5}, {2, 1, 4}}, 7, 0)},
		{x, table([]int{0, 3}, [][]int{{1, 4}, {2, 4}, {3, 5}}, 1, 1, 1), table([]int{0, 2, 3}, [][]int{{2, 1, 4}}, 0)},
		{x, table([]int{0, 1, 3, 4}, [][]int{{1, 4, 5, 5}, {1, 5, 5, 5}}, 1, 1), table([]int{0, 2, 3}, [][]int{{1, 1, 5}, {1, 2, 5}}, 7, -8)},
		{x, x, x},
		{x, table([]int{0, 2, 3}, [][]int{{0, 9, 9}, {1, 2, 5}, {1, 2, 6}}, 1, 1, 1), table([]int{0, 2, 3}, [][]int{{1, 2, 5}}, -8)},
		{x, table([]int{1, 4}, [][]int{{0, 0}}, 3), x},
		{x, table([]int{1, 4}, nil), table([]int{0, 2, 3}, nil)},
		{x, table([]int{0, 2, 3}, nil), table([]int{0, 2, 3}, nil)},
		{x, unit, x},
		{x, none, table([]int{0, 2, 3}, nil)},
		{unit, x, unit},
		{unit, unit, unit},
		{unit, none, none},
		{none, unit, none},
		{none, none, none},
		{unit, table([]int{0}, nil), none},
	}
	for _, c := range cases {
		if got := impl.Semijoin(c.a, c.b); !sameTable(got, c.want) {
			t.Errorf("Semijoin(%v, %v) = %v, want %v", c.a, c.b, got, c.want)
		}
	}
}

func drawnTable(r *rand.Rand) impl.Table {
	values := []int{math.MinInt, -1, 0, 1, 2, math.MaxInt}
	x := impl.Table{Vars: setOf(r.Intn(64))}
	if r.Intn(3) > 0 {
		x.Vars = x.Vars[:min(len(x.Vars), 3)]
	}
	for range r.Intn(25) {
		var row []int
		for range x.Vars {
			row = append(row, values[r.Intn(len(values))])
		}
		x.Rows = append(x.Rows, row)
	}
	slices.SortFunc(x.Rows, slices.Compare)
	x.Rows = slices.CompactFunc(x.Rows, slices.Equal)
	for range x.Rows {
		x.Weights = append(x.Weights, r.Int()-r.Int())
	}
	return x
}

// valueOf is what a row gives to a variable, and whether the table has it.
func valueOf(vars, row []int, variable int) (int, bool) {
	for i, v := range vars {
		if v == variable {
			return row[i], true
		}
	}
	return 0, false
}

// searchProject takes for each row the place behind all smaller ones.
func searchProject(x impl.Table, vars []int) impl.Table {
	out := impl.Table{Vars: vars}
	for _, row := range x.Rows {
		var kept []int
		for _, v := range vars {
			value, _ := valueOf(x.Vars, row, v)
			kept = append(kept, value)
		}
		at := 0
		for at < len(out.Rows) && slices.Compare(out.Rows[at], kept) < 0 {
			at++
		}
		if at == len(out.Rows) || !slices.Equal(out.Rows[at], kept) {
			out.Rows = slices.Insert(out.Rows, at, kept)
			out.Weights = append(out.Weights, 1)
		}
	}
	return out
}

func searchSemijoin(a, b impl.Table) impl.Table {
	out := impl.Table{Vars: a.Vars}
	agree := func(row, other []int) bool {
		for v := range impl.MaxVars {
			x, inA := valueOf(a.Vars, row, v)
			y, inB := valueOf(b.Vars, other, v)
			if inA && inB && x != y {
				return false
			}
		}
		return true
	}
	for i, row := range a.Rows {
		if slices.ContainsFunc(b.Rows, func(other []int) bool { return agree(row, other) }) {
			out.Rows = append(out.Rows, row)
			out.Weights = append(out.Weights, a.Weights[i])
		}
	}
	return out
}

func TestTablesAgainstSearch(t *testing.T) {
	r := rand.New(rand.NewSource(4))
	for range 4000 {
		a, b := drawnTable(r), drawnTable(r)
		aBefore, bBefore := cloneTable(a), cloneTable(b)
		for bits := range 64 {
			vars := setOf(bits)
			want := impl.Table{}
			if inSomeEdge(vars, [][]int{a.Vars}) {
				want = searchProject(a, vars)
			}
			got := impl.Project(a, vars)
			if !sameTable(got, want) {
				t.Fatalf("Project(%v, %v) = %v, want %v", a, vars, got, want)
			}
			if !noTable(want) && !impl.TableOK(got) {
				t.Fatalf("Project(%v, %v) = %v isn't OK", a, vars, got)
			}
			spoilTable(t, got)
			if !slices.Equal(vars, setOf(bits)) {
				t.Fatal("Project shares its vars")
			}
		}
		got, want := impl.Semijoin(a, b), searchSemijoin(a, b)
		if !sameTable(got, want) || !impl.TableOK(got) {
			t.Fatalf("Semijoin(%v, %v) = %v, want %v", a, b, got, want)
		}
		spoilTable(t, got)
		if !sameTable(a, aBefore) || !sameTable(b, bBefore) {
			t.Fatal("an argument was changed")
		}
	}
}

// Rows that lie in one stretch of memory are arguments like any others.
func TestTablesOfOneStretch(t *testing.T) {
	stretch := []int{1, 1, 1, 2, 2, 1}
	x := table([]int{0, 1}, [][]int{stretch[0:2], stretch[2:4], stretch[4:6]}, 3, 4, 5)
	spoilTable(t, impl.Semijoin(x, x))
	spoilTable(t, impl.Project(x, []int{1}))
	spoilTable(t, impl.Project(x, []int{0, 1}))
	if !slices.Equal(stretch, []int{1, 1, 1, 2, 2, 1}) || !slices.Equal(x.Weights, []int{3, 4, 5}) {
		t.Error("an argument was changed:", x)
	}
}

func TestLargeTables(t *testing.T) {
	a := impl.Table{Vars: []int{0, 1}}
	for i := range 10000 {
		a.Rows = append(a.Rows, []int{i / 100, i % 100})
		a.Weights = append(a.Weights, -i)
	}
	if got := impl.Project(a, []int{1}); len(got.Rows) != 100 || !impl.TableOK(got) {
		t.Error(len(got.Rows))
	}
	b := impl.Table{Vars: []int{1, 2}, Rows: nil}
	for i := range 10000 {
		b.Rows = append(b.Rows, []int{i/100 + 50, i % 100})
		b.Weights = append(b.Weights, 1)
	}
	got := impl.Semijoin(a, b)
	if len(got.Rows) != 5000 || !slices.Equal(got.Rows[0], []int{0, 50}) || got.Weights[0] != -50 || !impl.TableOK(got) {
		t.Error(len(got.Rows))
	}
}

func TestIntersectPinned(t *testing.T) {
	low, high := math.MinInt, math.MaxInt
	cases := []struct{ lists, want [][]int }{
		{nil, nil},
		{[][]int{}, nil},
		{[][]int{{}}, nil},
		{[][]int{nil, nil}, nil},
		{[][]int{{5}}, [][]int{{5}}},
		{[][]int{{-3, 0, 8}}, [][]int{{-3, 0, 8}}},
		{[][]int{{1, 2}, {}}, nil},
		{[][]int{{}, {1, 2}}, nil},
		{[][]int{{1, 2}, {3, 4}}, nil},
		{[][]int{{3, 4}, {1, 2}}, nil},
		{[][]int{{1, 3, 5, 7}, {-2, 3, 4, 7, 9}, {3, 7}}, [][]int{{3, 7}}},
		{[][]int{{low, 0, high}, {low, 1, high}}, [][]int{{low, high}}},
		{[][]int{{low}, {low}}, [][]int{{low}}},
		{[][]int{{high}, {low, high}, {high}}, [][]int{{high}}},
		{[][]int{{low}, {high}}, nil},
		{[][]int{{low, high}}, [][]int{{low, high}}},
		{[][]int{{1, 1}}, nil},
		{[][]int{{2, 1}}, nil},
		{[][]int{{1, 2, 2}, {1}}, nil},
		{[][]int{{1, 2}, {1, 2}, {1, 2, 0}}, nil},
		{[][]int{{1, 2, 3}, {}, {3, 1}}, nil},
		{[][]int{{high, low}}, nil},
		{slices.Repeat([][]int{{1, 2, 3}}, 100), [][]int{{1, 2, 3}}},
		{slices.Repeat([][]int{{1, 2, 3}}, 101), nil},
		{slices.Repeat([][]int{{1, 2, 3}}, 1000), nil},
	}
	for _, c := range cases {
		want := slices.Concat(c.want...)
		if got := impl.Intersect(c.lists); !slices.Equal(got, want) {
			t.Errorf("Intersect(%v) = %v, want %v", c.lists, got, want)
		}
	}
}

func TestIntersectAgainstSearch(t *testing.T) {
	r := rand.New(rand.NewSource(5))
	for range 5000 {
		count := []int{1, 2, 3, 5, 100}[r.Intn(5)]
		span := r.Intn(40) + 2
		var lists [][]int
		for range count {
			var list []int
			for v := range span {
				if r.Intn(span) > 1 || r.Intn(3) == 0 {
					list = append(list, v-span/2)
				}
			}
			lists = append(lists, list)
		}
		var want []int
		for v := -span; v <= span; v++ {
			if !slices.ContainsFunc(lists, func(list []int) bool { return !slices.Contains(list, v) }) {
				want = append(want, v)
			}
		}
		before := cloneLists(lists)
		got := impl.Intersect(lists)
		if !slices.Equal(got, want) {
			t.Fatalf("Intersect(%v) = %v, want %v", lists, got, want)
		}
		checkApart(t, [][]int{got})
		if !sameLists(lists, before) {
			t.Fatal("an argument was changed")
		}
	}
}

// Long lists are gone through by seeking, not value by value for each other list.
func TestIntersectLongLists(t *testing.T) {
	var lists [][]int
	for step := 1; step <= 5; step++ {
		var list []int
		for v := 0; v < 1000000; v += step {
			list = append(list, v)
		}
		lists = append(lists, list)
	}
	got := impl.Intersect(lists)
	if len(got) != 16667 || got[1] != 60 || got[16666] != 999960 {
		t.Error(len(got))
	}
}
