package tests

import (
	"math"
	"math/rand"
	"slices"
	"testing"

	"loop.example/s01205/impl"
)

// checkEliminate holds a plan against the oracle, PlanOK and the arguments.
func checkEliminate(t *testing.T, k int, edges [][]int, order []int, widths coverWidths) {
	t.Helper()
	edgesBefore, orderBefore := cloneLists(edges), slices.Clone(order)
	got := impl.Eliminate(k, edges, order)
	if !sameLists(edges, edgesBefore) || !slices.Equal(order, orderBefore) {
		t.Fatalf("Eliminate(%d, %v, %v) wrote into its arguments", k, edgesBefore, orderBefore)
	}
	if want := oraclePlan(edges, order, widths); !samePlan(got, want) {
		t.Fatalf("Eliminate(%d, %v, %v) = %v, want %v", k, edges, order, got, want)
	}
	if !impl.PlanOK(k, edges, got) {
		t.Fatalf("Eliminate(%d, %v, %v) = %v isn't OK", k, edges, order, got)
	}
}

func TestEliminatePinned(t *testing.T) {
	one, two, half3 := rat(1, 1), rat(2, 1), rat(3, 2)
	triangle := [][]int{{0, 1}, {1, 2}, {0, 2}}
	star := [][]int{{0, 1}, {0, 2}, {0, 3}}
	five := [][]int{{0, 1}, {1, 2}, {2, 3}, {3, 4}, {0, 4}}
	cases := []struct {
		name  string
		k     int
		edges [][]int
		order []int
		want  impl.Plan
	}{
		{"the triangle", 3, triangle, []int{0, 1, 2}, impl.Plan{Bags: [][]int{{0, 1, 2}, {1, 2}, {2}}, Parent: []int{1, 2, -1}, Home: []int{0, 1, 0}, Widths: []impl.Rat{half3, one, one}, Width: half3}},
		{"the triangle from its end", 3, triangle, []int{2, 1, 0}, impl.Plan{Bags: [][]int{{0, 1, 2}, {0, 1}, {0}}, Parent: []int{1, 2, -1}, Home: []int{1, 0, 0}, Widths: []impl.Rat{half3, one, one}, Width: half3}},
		{"the path", 3, pathEdges(), []int{0, 1, 2}, pathPlan()},
		{"the path from its middle", 3, pathEdges(), []int{1, 0, 2}, impl.Plan{Bags: [][]int{{0, 1, 2}, {0, 2}, {2}}, Parent: []int{1, 2, -1}, Home: []int{0, 0}, Widths: []impl.Rat{two, two, one}, Width: two}},
		{"the star from its middle", 4, star, []int{0, 3, 1, 2}, impl.Plan{Bags: [][]int{{0, 1, 2, 3}, {1, 2, 3}, {1, 2}, {2}}, Parent: []int{1, 2, 3, -1}, Home: []int{0, 0, 0}, Widths: []impl.Rat{rat(3, 1), rat(3, 1), two, one}, Width: rat(3, 1)}},
		// Eliminating 0 and then 1 makes 4 a neighbour of 2 that no edge has given it.
		{"a cycle of five", 5, five, []int{0, 1, 2, 3, 4}, impl.Plan{Bags: [][]int{{0, 1, 4}, {1, 2, 4}, {2, 3, 4}, {3, 4}, {4}}, Parent: []int{1, 2, 3, 4, -1}, Home: []int{0, 1, 2, 3, 0}, Widths: []impl.Rat{two, two, two, one, one}, Width: two}},
		{"two parts", 4, [][]int{{0, 1}, {2, 3}}, []int{2, 1, 3, 0}, impl.Plan{Bags: [][]int{{2, 3}, {0, 1}, {3}, {0}}, Parent: []int{2, 3, -1, -1}, Home: []int{1, 0}, Widths: []impl.Rat{one, one, one, one}, Width: one}},
		{"an empty edge and the same one twice", 2, [][]int{{}, {0, 1}, {0, 1}, {1}}, []int{1, 0}, impl.Plan{Bags: [][]int{{0, 1}, {0}}, Parent: []int{1, -1}, Home: []int{-1, 0, 0, 0}, Widths: []impl.Rat{one, one}, Width: one}},
		{"one variable", 1, [][]int{{0}}, []int{0}, impl.Plan{Bags: [][]int{{0}}, Parent: []int{-1}, Home: []int{0}, Widths: []impl.Rat{one}, Width: one}},
		{"no variables", 0, [][]int{{}, {}}, []int{}, impl.Plan{Home: []int{-1, -1}, Width: rat(0, 1)}},
		{"nothing at all", 0, nil, nil, impl.Plan{Width: rat(0, 1)}},
	}
	for _, c := range cases {
		if got := impl.Eliminate(c.k, c.edges, c.order); !samePlan(got, c.want) {
			t.Errorf("%s: %v, want %v", c.name, got, c.want)
		}
		if !impl.PlanOK(c.k, c.edges, c.want) {
			t.Errorf("%s: not OK", c.name)
		}
	}
}

func TestEliminateByOrdersThatAreNone(t *testing.T) {
	square := [][]int{{0, 1}, {1, 2}, {2, 3}, {0, 3}}
	orders := [][]int{
		nil, {}, {0}, {0, 1, 2}, {0, 1, 2, 3, 4}, {0, 1, 2, 3, 0}, {0, 1, 2, 3, -1},
		{0, 1, 2, 2}, {0, 0, 1, 2}, {3, 1, 2, 3}, {1, 1, 1, 1},
		{0, 1, 2, 4}, {4, 1, 2, 3}, {-1, 0, 1, 2}, {1, 2, 3, 4}, {0, 1, 2, math.MaxInt}, {math.MinInt, 1, 2, 3},
		slices.Repeat([]int{0}, 100000),
	}
	for _, order := range orders {
		before := slices.Clone(order)
		if got := impl.Eliminate(4, square, order); !noPlan(got) {
			t.Errorf("%v: %v", order, got)
		}
		if !slices.Equal(order, before) {
			t.Error("the order was written into")
		}
	}
	for _, order := range [][]int{{0}, {-1}, {0, 1}} {
		if got := impl.Eliminate(0, nil, order); !noPlan(got) {
			t.Errorf("k = 0, %v: %v", order, got)
		}
	}
}

func TestEliminateOfNoPatterns(t *testing.T) {
	for _, c := range noPatterns() {
		for _, order := range [][]int{nil, upTo(min(max(c.k, 0), 10)), {0}, {0, 1}, upTo(6)} {
			if got := impl.Eliminate(c.k, c.edges, order); !noPlan(got) {
				t.Errorf("%s, order %v: %v", c.name, order, got)
			}
		}
	}
}

func TestEliminateInEveryOrderOfSmallPatterns(t *testing.T) {
	checked := 0
	smallPatterns(3, 3, func(k int, edges [][]int) {
		widths := widthsFor(edges)
		for _, order := range allOrders(k) {
			checkEliminate(t, k, edges, order, widths)
			checked++
		}
	})
	if checked < 2000 {
		t.Errorf("only %d orders", checked)
	}
}

func TestEliminateInEveryOrderOfDrawnPatterns(t *testing.T) {
	draw := rand.New(rand.NewSource(42))
	for k, count := range []int{1, 5, 10, 20, 40, 20, 12} {
		for range count {
			edges := drawnPattern(draw, k, k+draw.Intn(8-k))
			widths := widthsFor(edges)
			for _, order := range allOrders(k) {
				checkEliminate(t, k, edges, order, widths)
			}
		}
	}
}

// Cycles make each elimination tie two variables that no edge has.
func TestEliminateInEveryOrderOfCycles(t *testing.T) {
	for k := 3; k <= impl.MaxVars; k++ {
		var edges [][]int
		for v := range k {
			edge := []int{v, (v + 1) % k}
			slices.Sort(edge)
			edges = append(edges, edge)
		}
		widths := widthsFor(edges)
		for _, order := range allOrders(k) {
			checkEliminate(t, k, edges, order, widths)
		}
	}
}

func TestEliminateIsNewMemory(t *testing.T) {
	edges, order := guarded([][]int{{0, 1}, {1, 2}, {0, 2}, {0, 1}}), guardedList([]int{0, 1, 2})
	first := impl.Eliminate(3, edges, order)
	want := clonePlan(first)
	second := impl.Eliminate(3, edges, order)
	spoilPlan(t, nil, first)
	if !samePlan(second, want) || !samePlan(impl.Eliminate(3, edges, order), want) {
		t.Error("two answers share memory")
	}
	if !sameLists(edges, [][]int{{0, 1}, {1, 2}, {0, 2}, {0, 1}}) || !slices.Equal(order, []int{0, 1, 2}) {
		t.Error("an answer shares memory with an argument")
	}
	if !guardsHold(edges) || !guardHolds(order) {
		t.Error("an argument was written into, behind its end")
	}
}
