package tests

import (
	"math/rand"
	"slices"
	"testing"

	"loop.example/s01205/impl"
)

// bindData: of e and t some rows have a value twice.
func bindData() impl.Data {
	return dataOf(
		relation("a", 1, [][]int{{0}, {1}, {3}}, 11, -12, 0),
		relation("e", 2, [][]int{{0, 0}, {0, 1}, {1, 0}, {1, 2}, {2, 1}, {2, 2}, {3, 0}}, 1, 2, 3, 4, 5, 6, 7),
		relation("t", 3, [][]int{{0, 0, 0}, {0, 0, 1}, {0, 1, 0}, {1, 0, 0}, {1, 1, 1}, {1, 2, 1}, {2, 1, 0}, {2, 3, 1}}, 21, 22, 23, 24, 25, 26, -27, 28),
		relation("none", 2, nil),
	)
}

func TestBindPinned(t *testing.T) {
	cases := []struct {
		text string
		want []impl.Table
	}{
		{"q() :- a(x).", []impl.Table{table([]int{0}, [][]int{{0}, {1}, {3}}, 11, -12, 0)}},
		{"q() :- a(1).", []impl.Table{table(nil, [][]int{{}}, -12)}},
		{"q() :- a(2).", []impl.Table{table(nil, nil)}},
		{"q() :- e(0, 1), e(1, 1).", []impl.Table{table(nil, [][]int{{}}, 2), table(nil, nil)}},
		{"q() :- e(x, x).", []impl.Table{table([]int{0}, [][]int{{0}, {2}}, 1, 6)}},
		{"q() :- e(x, 0).", []impl.Table{table([]int{0}, [][]int{{0}, {1}, {3}}, 1, 3, 7)}},
		{"q() :- e(1, x).", []impl.Table{table([]int{0}, [][]int{{0}, {2}}, 3, 4)}},
		{"q() :- e(9, x).", []impl.Table{table([]int{0}, nil)}},
		{"q() :- none(x, y).", []impl.Table{table([]int{0, 1}, nil)}},
		{"q() :- none(y, y).", []impl.Table{table([]int{0}, nil)}},
		{"q() :- a(y), e(x, y).", []impl.Table{
			table([]int{0}, [][]int{{0}, {1}, {3}}, 11, -12, 0),
			table([]int{0, 1}, [][]int{{0, 0}, {0, 1}, {0, 3}, {1, 0}, {1, 2}, {2, 1}, {2, 2}}, 1, 3, 7, 2, 5, 4, 6),
		}},
		{"q() :- e(x, y), t(z, y, x).", []impl.Table{
			table([]int{0, 1}, [][]int{{0, 0}, {0, 1}, {1, 0}, {1, 2}, {2, 1}, {2, 2}, {3, 0}}, 1, 2, 3, 4, 5, 6, 7),
			table([]int{0, 1, 2}, [][]int{{0, 0, 0}, {0, 0, 1}, {0, 1, 0}, {0, 1, 2}, {1, 0, 0}, {1, 1, 1}, {1, 2, 1}, {1, 3, 2}}, 21, 24, 23, -27, 22, 25, 26, 28),
		}},
		{"q() :- t(x, x, x).", []impl.Table{table([]int{0}, [][]int{{0}, {1}}, 21, 25)}},
		{"q() :- t(x, x, y).", []impl.Table{table([]int{0, 1}, [][]int{{0, 0}, {0, 1}, {1, 1}}, 21, 22, 25)}},
		{"q() :- t(x, y, x).", []impl.Table{table([]int{0, 1}, [][]int{{0, 0}, {0, 1}, {1, 1}, {1, 2}}, 21, 23, 25, 26)}},
		{"q() :- t(y, x, x).", []impl.Table{table([]int{0, 1}, [][]int{{0, 0}, {1, 0}, {1, 1}}, 21, 24, 25)}},
		{"q() :- t(x, 1, x).", []impl.Table{table([]int{0}, [][]int{{0}, {1}}, 23, 25)}},
		{"q() :- t(0, x, x).", []impl.Table{table([]int{0}, [][]int{{0}}, 21)}},
		{"q() :- t(x, x, 1).", []impl.Table{table([]int{0}, [][]int{{0}, {1}}, 22, 25)}},
		{"q() :- t(2, x, 0).", []impl.Table{table([]int{0}, [][]int{{1}}, -27)}},
		{"q() :- t(2, 3, 1).", []impl.Table{table(nil, [][]int{{}}, 28)}},
		{"q() :- t(2, 3, 2).", []impl.Table{table(nil, nil)}},
		{"q() :- a(u), a(v), a(w), t(w, 0, u), e(v, u).", []impl.Table{
			table([]int{0}, [][]int{{0}, {1}, {3}}, 11, -12, 0),
			table([]int{1}, [][]int{{0}, {1}, {3}}, 11, -12, 0),
			table([]int{2}, [][]int{{0}, {1}, {3}}, 11, -12, 0),
			table([]int{0, 2}, [][]int{{0, 0}, {0, 1}, {1, 0}}, 21, 24, 22),
			table([]int{0, 1}, [][]int{{0, 0}, {0, 1}, {0, 3}, {1, 0}, {1, 2}, {2, 1}, {2, 2}}, 1, 3, 7, 2, 5, 4, 6),
		}},
	}
	for _, c := range cases {
		if got := impl.Bind(bindData(), parsed(t, c.text)); !slices.EqualFunc(got, c.want, sameTable) {
			t.Errorf("%q: %v, want %v", c.text, got, c.want)
		}
	}
}

func TestBindUnchecked(t *testing.T) {
	for _, text := range []string{"q() :- b(x).", "q() :- a(x, y).", "q() :- a(x), e(x).", "q(z) :- a(x).", "q(x, x) :- a(x).",
		"q() :- t(b, c, d), t(f, g, h), a(i).", "q() :- a(x), a(x), a(x), a(x), a(x), a(x), a(x), a(x)."} {
		if got := impl.Bind(bindData(), parsed(t, text)); len(got) != 0 {
			t.Errorf("%q: %v", text, got)
		}
	}
	for what, q := range badShapes() {
		if got := impl.Bind(dataOf(relation("r", 2, nil), relation("s", 1, nil)), q); len(got) != 0 {
			t.Errorf("%.40q: %v", what, got)
		}
	}
	if got := impl.Bind(impl.Data{}, impl.Query{}); len(got) != 0 {
		t.Error(got)
	}
}

func drawnData(r *rand.Rand) impl.Data {
	var d impl.Data
	for i, name := range []string{"t", "a", "e"} {
		rel := impl.Relation{Name: name, Arity: []int{3, 1, 2}[i]}
		for range r.Intn(20) {
			var row []int
			for range rel.Arity {
				row = append(row, r.Intn(4))
			}
			rel.Rows = append(rel.Rows, row)
		}
		slices.SortFunc(rel.Rows, slices.Compare)
		rel.Rows = slices.CompactFunc(rel.Rows, slices.Equal)
		for range rel.Rows {
			rel.Weights = append(rel.Weights, r.Intn(2001)-1000)
		}
		d.Rels = append(d.Rels, rel)
	}
	return d
}

// put is what an atom becomes when the variables get the values of a choice.
func put(a impl.Atom, vars []string, choice []int) []int {
	var row []int
	for _, term := range a.Terms {
		if term.Var == "" {
			row = append(row, term.Val)
		} else {
			row = append(row, choice[slices.Index(vars, term.Var)])
		}
	}
	return row
}

// weightOf is the weight of a row of the relation, and whether it has the row.
func weightOf(d impl.Data, name string, row []int) (int, bool) {
	for _, rel := range d.Rels {
		for i := range rel.Rows {
			if rel.Name == name && slices.Equal(rel.Rows[i], row) {
				return rel.Weights[i], true
			}
		}
	}
	return 0, false
}

// choices gives all lists of that length of the values 0 to 3, sorted.
func choices(length int) [][]int {
	if length == 0 {
		return [][]int{{}}
	}
	var out [][]int
	for _, begin := range choices(length - 1) {
		for value := range 4 {
			out = append(out, append(slices.Clone(begin), value))
		}
	}
	return out
}

// searchBound tries all values for the variables of one atom.
func searchBound(d impl.Data, q impl.Query, a impl.Atom) impl.Table {
	vars := impl.Variables(q)
	var x impl.Table
	var own []string
	for number, name := range vars {
		if slices.Contains(a.Terms, v(name)) {
			x.Vars, own = append(x.Vars, number), append(own, name)
		}
	}
	for _, choice := range choices(len(own)) {
		if weight, there := weightOf(d, a.Rel, put(a, own, choice)); there {
			x.Rows, x.Weights = append(x.Rows, choice), append(x.Weights, weight)
		}
	}
	return x
}

func TestBindAgainstSearch(t *testing.T) {
	r := rand.New(rand.NewSource(35))
	rows := 0
	for range 4000 {
		d, q := drawnData(r), drawnFor(r, "uvwxyz"[:1+r.Intn(6)], 7)
		dBefore, qBefore := cloneData(d), cloneQuery(q)
		got := impl.Bind(d, q)
		if len(got) != len(q.Atoms) {
			t.Fatal(q, got)
		}
		for i, a := range q.Atoms {
			want := searchBound(d, q, a)
			if !impl.TableOK(got[i]) || !sameTable(got[i], want) {
				t.Fatalf("%v of %v in %v: %v, want %v", a, q, d, got[i], want)
			}
			rows += len(want.Rows)
		}
		for _, x := range got {
			spoilTable(t, x)
		}
		var inner [][]int
		var outer [][][]int
		for _, x := range impl.Bind(d, q) {
			inner, outer = append(append(inner, x.Rows...), x.Vars, x.Weights), append(outer, x.Rows)
		}
		checkApart(t, inner)
		checkOuterApart(t, outer)
		if !sameData(d, dBefore) || !sameQuery(q, qBefore) {
			t.Fatal("an argument was changed:", qBefore)
		}
	}
	if rows < 20000 {
		t.Error("the tables had few rows:", rows)
	}
}

// A choice for all variables is a row of all tables exactly if the atoms, with
// it put in, are rows of the relations.
func TestBindAllChoices(t *testing.T) {
	r := rand.New(rand.NewSource(36))
	yes := 0
	for range 300 {
		d, q := drawnData(r), drawnFor(r, "wxyz", 4)
		vars, tables := impl.Variables(q), impl.Bind(d, q)
		for _, choice := range choices(len(vars)) {
			inRelations, inTables := true, true
			for i, a := range q.Atoms {
				_, there := weightOf(d, a.Rel, put(a, vars, choice))
				inRelations = inRelations && there
				var row []int
				for _, number := range tables[i].Vars {
					row = append(row, choice[number])
				}
				inTables = inTables && slices.ContainsFunc(tables[i].Rows, func(x []int) bool { return slices.Equal(x, row) })
			}
			if inRelations != inTables {
				t.Fatal(d, q, choice, inRelations, inTables)
			}
			if inTables {
				yes++
			}
		}
	}
	if yes < 500 {
		t.Error("few choices were rows:", yes)
	}
}

// As many rows and atoms as may be, with columns that change places.
func TestBindLarge(t *testing.T) {
	var rel impl.Relation
	for i := range impl.MaxRows {
		rel.Rows = append(rel.Rows, []int{i / 50, impl.MaxValue - i%50, impl.MaxValue - i})
		rel.Weights = append(rel.Weights, i-impl.MaxWeight)
	}
	slices.SortFunc(rel.Rows, slices.Compare)
	rel.Name, rel.Arity = "r", 3
	tables := impl.Bind(dataOf(rel), parsed(t, "q() :- r(x, y, z), r(z, y, x), r(z, x, y), r(y, x, z), r(u, v, w), r(w, v, u), r(w, u, v)."))
	if len(tables) != 7 {
		t.Fatal(len(tables))
	}
	for i, x := range tables {
		if !impl.TableOK(x) || len(x.Rows) != impl.MaxRows {
			t.Error(i, len(x.Rows))
		}
	}
	for i, row := range rel.Rows {
		at, found := slices.BinarySearchFunc(tables[1].Rows, []int{row[2], row[1], row[0]}, slices.Compare)
		if !found || tables[1].Weights[at] != rel.Weights[i] {
			t.Fatal(row, found)
		}
	}
}
