package tests

import (
	"math/rand"
	"slices"
	"testing"

	"loop.example/s01205/impl"
)

var rings = []int{impl.RingCount, impl.RingSum, impl.RingMin}

// allHeads are all lists of different variables below k, in every order.
func allHeads(k int) [][]int {
	heads := [][]int{{}}
	for i := 0; i < len(heads); i++ {
		for v := range k {
			if !slices.Contains(heads[i], v) {
				heads = append(heads, append(slices.Clone(heads[i]), v))
			}
		}
	}
	return heads
}

// someHeads are the empty one, one with all variables, and some drawn ones.
func someHeads(draw *rand.Rand, k int) [][]int {
	heads := [][]int{{}, draw.Perm(k)}
	for range 4 {
		heads = append(heads, draw.Perm(k)[:draw.Intn(k+1)])
	}
	return heads
}

// reweighted has the same tables with weights drawn from the list.
func reweighted(draw *rand.Rand, tables []impl.Table, weights []int) []impl.Table {
	out := cloneTables(tables)
	for _, x := range out {
		for i := range x.Weights {
			x.Weights[i] = weights[draw.Intn(len(weights))]
		}
	}
	return out
}

// rehung lets some parts that have a parent in no other hang on a later bag
// with which they share nothing.
func rehung(draw *rand.Rand, p impl.Plan) impl.Plan {
	p = clonePlan(p)
	for i := range p.Parent {
		if last := len(p.Bags) - 1; p.Parent[i] == -1 && i < last && draw.Intn(2) == 0 {
			p.Parent[i] = i + 1 + draw.Intn(last-i)
		}
	}
	return p
}

// asked are arguments with marked room behind each of their lists.
type asked struct {
	k      int
	tables []impl.Table
	plan   impl.Plan
	head   []int
}

func askedWith(k int, tables []impl.Table, p impl.Plan, head []int) asked {
	return asked{k, guardedTables(tables), guardedPlan(p), guardedList(head)}
}

// checkHeld asks whether nothing was written into the arguments.
func (a asked) checkHeld(t *testing.T, tables []impl.Table, p impl.Plan, head []int) {
	t.Helper()
	if !sameTables(a.tables, tables) || !samePlan(a.plan, p) || !slices.Equal(a.head, head) {
		t.Fatalf("an argument was changed, or shares memory with an answer: %d, %v, %v, %v", a.k, tables, p, head)
	}
	if !tablesHold(a.tables) || !planHolds(a.plan) || !guardHolds(a.head) {
		t.Fatalf("there's a write behind a list of an argument: %d, %v, %v, %v", a.k, tables, p, head)
	}
}

// checkReduce holds the tables of the bags against what the answers give, and
// asks whether they are within those of BagTables.
func checkReduce(t *testing.T, k int, tables []impl.Table, p impl.Plan, found []answer) {
	t.Helper()
	a := askedWith(k, tables, p, nil)
	got := impl.Reduce(k, a.tables, a.plan)
	if want := tryReduce(found, p.Bags); !sameTables(got, want) {
		t.Fatalf("Reduce(%d, %v, %v) = %v, want %v", k, tables, p, got, want)
	}
	bags, visits := impl.BagTables(k, tables, p)
	if visits < 0 {
		t.Fatalf("BagTables(%d, %v, %v) answers -1", k, tables, p)
	}
	for i, x := range got {
		if !impl.TableOK(x) || !sameTable(searchSemijoin(x, bags[i]), x) {
			t.Fatalf("the table of bag %v isn't OK, or not within the bag's: %v, %v", p.Bags[i], x, bags[i])
		}
		for j := range i {
			if slices.Equal(p.Bags[i], p.Bags[j]) && !sameTable(x, got[j]) {
				t.Fatalf("bags %d and %d are alike, but not their tables: %v, %v", j, i, got[j], x)
			}
		}
	}
	spoilTables(t, got)
	a.checkHeld(t, tables, p, nil)
}

func checkEnumerate(t *testing.T, k int, tables []impl.Table, p impl.Plan, head []int, found []answer) {
	t.Helper()
	a := askedWith(k, tables, p, head)
	got := impl.Enumerate(k, a.tables, a.plan, a.head)
	if want := tryEnumerate(found, head); !sameLists(got, want) {
		t.Fatalf("Enumerate(%d, %v, %v, %v) = %v, want %v", k, tables, p, head, got, want)
	}
	checkApart(t, got)
	checkOuterApart(t, [][][]int{got})
	a.checkHeld(t, tables, p, head)
}

func checkAggregate(t *testing.T, k int, tables []impl.Table, p impl.Plan, head []int, ring int, found []answer) {
	t.Helper()
	a := askedWith(k, tables, p, head)
	got, worths := impl.Aggregate(k, a.tables, a.plan, a.head, ring)
	if want, wantWorths := tryAggregate(found, head, ring); !sameLists(got, want) || !slices.Equal(worths, wantWorths) {
		t.Fatalf("Aggregate(%d, %v, %v, %v, %d) = %v, %v, want %v, %v", k, tables, p, head, ring, got, worths, want, wantWorths)
	}
	checkApart(t, append(slices.Clone(got), worths))
	checkOuterApart(t, [][][]int{got})
	a.checkHeld(t, tables, p, head)
}

// checkAnswers asks all that chapter 6 answers, with weights that every ring takes.
func checkAnswers(t *testing.T, k int, tables []impl.Table, p impl.Plan, heads ...[]int) {
	t.Helper()
	found := tryAnswers(k, tables)
	checkReduce(t, k, tables, p, found)
	for _, head := range heads {
		checkEnumerate(t, k, tables, p, head, found)
		for _, ring := range rings {
			checkAggregate(t, k, tables, p, head, ring, found)
		}
	}
}

// checkNoReduce asks for the fixed answer.
func checkNoReduce(t *testing.T, name string, k int, tables []impl.Table, p impl.Plan) {
	t.Helper()
	tablesBefore, planBefore := cloneTables(tables), clonePlan(p)
	if got := impl.Reduce(k, tables, p); len(got) != 0 {
		t.Errorf("%s: %d tables", name, len(got))
	}
	if !sameTables(tables, tablesBefore) || !samePlan(p, planBefore) {
		t.Errorf("%s: an argument was changed", name)
	}
}

func checkNoLists(t *testing.T, name string, k int, tables []impl.Table, p impl.Plan, head []int) {
	t.Helper()
	tablesBefore, planBefore, headBefore := cloneTables(tables), clonePlan(p), slices.Clone(head)
	if got := impl.Enumerate(k, tables, p, head); len(got) != 0 {
		t.Errorf("%s: %d lists", name, len(got))
	}
	for _, ring := range rings {
		checkNoWorths(t, name, k, tables, p, head, ring)
	}
	if !sameTables(tables, tablesBefore) || !samePlan(p, planBefore) || !slices.Equal(head, headBefore) {
		t.Errorf("%s: an argument was changed", name)
	}
}

func checkNoWorths(t *testing.T, name string, k int, tables []impl.Table, p impl.Plan, head []int, ring int) {
	t.Helper()
	if got, worths := impl.Aggregate(k, tables, p, head, ring); len(got) != 0 || len(worths) != 0 {
		t.Errorf("%s: %d lists and %d values for the ring %d", name, len(got), len(worths), ring)
	}
}

// checkNothing asks for the fixed answers of all three, with a head that fits
// where k does, and the empty one.
func checkNothing(t *testing.T, name string, k int, tables []impl.Table, p impl.Plan) {
	t.Helper()
	checkNoReduce(t, name, k, tables, p)
	checkNoLists(t, name, k, tables, p, nil)
	checkNoLists(t, name, k, tables, p, []int{0})
}
