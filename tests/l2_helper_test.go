package tests

import (
	"slices"
	"testing"

	"loop.example/s01205/impl"
)

func sameLists(a, b [][]int) bool { return slices.EqualFunc(a, b, slices.Equal) }

func sameRelation(a, b impl.Relation) bool {
	return a.Name == b.Name && a.Arity == b.Arity && sameLists(a.Rows, b.Rows) && slices.Equal(a.Weights, b.Weights)
}

func sameData(a, b impl.Data) bool { return slices.EqualFunc(a.Rels, b.Rels, sameRelation) }

func sameTable(a, b impl.Table) bool {
	return slices.Equal(a.Vars, b.Vars) && sameLists(a.Rows, b.Rows) && slices.Equal(a.Weights, b.Weights)
}

func noTable(x impl.Table) bool { return len(x.Vars) == 0 && len(x.Rows) == 0 && len(x.Weights) == 0 }

func cloneData(d impl.Data) impl.Data {
	var out impl.Data
	for _, r := range d.Rels {
		r.Rows, r.Weights = cloneLists(r.Rows), slices.Clone(r.Weights)
		out.Rels = append(out.Rels, r)
	}
	return out
}

func cloneTable(x impl.Table) impl.Table {
	return impl.Table{Vars: slices.Clone(x.Vars), Rows: cloneLists(x.Rows), Weights: slices.Clone(x.Weights)}
}

// checkApart fills each list up to its capacity with a mark of its own: where
// two share memory, the later mark shows in the earlier one.
func checkApart(t *testing.T, lists [][]int) {
	t.Helper()
	for i, list := range lists {
		for j := range list[:cap(list)] {
			list[:cap(list)][j] = -7000 - i
		}
	}
	for i, list := range lists {
		for _, value := range list[:cap(list)] {
			if value != -7000-i {
				t.Fatalf("list %d of the answer shares memory with list %d", i, -7000-value)
			}
		}
	}
}

// checkOuterApart does the same for lists of rows.
func checkOuterApart(t *testing.T, lists [][][]int) {
	t.Helper()
	for i, list := range lists {
		for j := range list[:cap(list)] {
			list[:cap(list)][j] = []int{i}
		}
	}
	for i, list := range lists {
		for _, row := range list[:cap(list)] {
			if len(row) != 1 || row[0] != i {
				t.Fatalf("rows %d of the answer share memory with rows %v", i, row)
			}
		}
	}
}

// spoilTable overwrites all memory of a table; what it was made from must not show it.
func spoilTable(t *testing.T, x impl.Table) {
	t.Helper()
	checkApart(t, append(slices.Clone(x.Rows), x.Vars, x.Weights))
	checkOuterApart(t, [][][]int{x.Rows})
}

func spoilData(t *testing.T, d impl.Data) {
	t.Helper()
	var inner [][]int
	var outer [][][]int
	for _, r := range d.Rels {
		inner = append(append(inner, r.Rows...), r.Weights)
		outer = append(outer, r.Rows)
	}
	checkApart(t, inner)
	checkOuterApart(t, outer)
}
