package tests

import (
	"math/rand"
	"runtime"
	"slices"
	"sync"
	"testing"
	"time"

	"loop.example/s01205/impl"
)

// checkBest holds BestPlan against all orders: the first of the least width is asked for.
func checkBest(t *testing.T, k int, edges [][]int) {
	t.Helper()
	var wantOrder []int
	var want impl.Plan
	for i, order := range allOrders(k) {
		plan := impl.Eliminate(k, edges, order)
		if i == 0 || bigOf(plan.Width).Cmp(bigOf(want.Width)) < 0 {
			wantOrder, want = order, plan
		}
	}
	before := cloneLists(edges)
	order, plan := impl.BestPlan(k, edges)
	if !sameLists(edges, before) {
		t.Fatalf("BestPlan(%d, %v) wrote into its argument", k, before)
	}
	if !slices.Equal(order, wantOrder) || !samePlan(plan, want) {
		t.Fatalf("BestPlan(%d, %v) = %v %v, want %v %v", k, edges, order, plan, wantOrder, want)
	}
	if !impl.PlanOK(k, edges, plan) {
		t.Fatalf("BestPlan(%d, %v): %v isn't OK", k, edges, plan)
	}
}

func TestBestPlanPinned(t *testing.T) {
	cases := []struct {
		name  string
		k     int
		edges [][]int
		order []int
		width impl.Rat
	}{
		{"the triangle", 3, [][]int{{0, 1}, {1, 2}, {0, 2}}, []int{0, 1, 2}, rat(3, 2)},
		{"the path", 3, pathEdges(), []int{0, 1, 2}, rat(1, 1)},
		{"the path with 0 in the middle", 3, [][]int{{0, 1}, {0, 2}}, []int{1, 0, 2}, rat(1, 1)},
		{"the star", 4, [][]int{{0, 1}, {0, 2}, {0, 3}}, []int{1, 2, 0, 3}, rat(1, 1)},
		{"a star whose middle is last", 4, [][]int{{0, 3}, {1, 3}, {2, 3}}, []int{0, 1, 2, 3}, rat(1, 1)},
		{"a star of five with 0 in the middle", 6, [][]int{{0, 1}, {0, 2}, {0, 3}, {0, 4}, {0, 5}}, []int{1, 2, 3, 4, 0, 5}, rat(1, 1)},
		{"a cycle of four", 4, [][]int{{0, 1}, {1, 2}, {2, 3}, {0, 3}}, []int{0, 1, 2, 3}, rat(2, 1)},
		{"a cycle of six", 6, [][]int{{0, 1}, {1, 2}, {2, 3}, {3, 4}, {4, 5}, {0, 5}}, []int{0, 1, 2, 3, 4, 5}, rat(2, 1)},
		{"two triangles", 6, [][]int{{0, 1}, {1, 2}, {0, 2}, {3, 4}, {4, 5}, {3, 5}}, []int{0, 1, 2, 3, 4, 5}, rat(3, 2)},
		{"two triangles at 0", 5, [][]int{{0, 1}, {1, 2}, {0, 2}, {0, 3}, {3, 4}, {0, 4}}, []int{1, 2, 0, 3, 4}, rat(3, 2)},
		{"one edge for all", 4, [][]int{{0, 1, 2, 3}, {0, 2}, {1, 3}}, []int{0, 1, 2, 3}, rat(1, 1)},
		{"threes of four", 4, [][]int{{0, 1, 2}, {0, 1, 3}, {0, 2, 3}, {1, 2, 3}}, []int{0, 1, 2, 3}, rat(4, 3)},
		{"each variable alone", 6, [][]int{{5}, {4}, {3}, {2}, {1}, {0}}, []int{0, 1, 2, 3, 4, 5}, rat(1, 1)},
		{"one variable", 1, [][]int{{}, {0}}, []int{0}, rat(1, 1)},
		{"no variables", 0, [][]int{{}, {}}, nil, rat(0, 1)},
		{"nothing at all", 0, nil, nil, rat(0, 1)},
	}
	for _, c := range cases {
		order, plan := impl.BestPlan(c.k, c.edges)
		if !slices.Equal(order, c.order) || plan.Width != c.width || !samePlan(plan, impl.Eliminate(c.k, c.edges, c.order)) {
			t.Errorf("%s: %v %v, want %v and width %v", c.name, order, plan, c.order, c.width)
		}
		if !impl.PlanOK(c.k, c.edges, plan) {
			t.Errorf("%s: %v isn't OK", c.name, plan)
		}
	}
	order, plan := impl.BestPlan(0, manyEdges(7))
	if len(order) != 0 || !samePlan(plan, impl.Plan{Home: slices.Repeat([]int{-1}, 7), Width: rat(0, 1)}) {
		t.Error(order, plan)
	}
}

func TestBestPlanOfNoPatterns(t *testing.T) {
	for _, c := range noPatterns() {
		before := cloneLists(c.edges)
		if order, plan := impl.BestPlan(c.k, c.edges); len(order) != 0 || !noPlan(plan) {
			t.Errorf("%s: %v %v", c.name, order, plan)
		}
		if !sameLists(c.edges, before) {
			t.Errorf("%s: the argument was written into", c.name)
		}
	}
}

func TestBestPlanOfAllSmallPatterns(t *testing.T) {
	smallPatterns(3, 4, func(k int, edges [][]int) { checkBest(t, k, edges) })
}

func TestBestPlanOfDrawnPatterns(t *testing.T) {
	draw := rand.New(rand.NewSource(43))
	for k, count := range []int{2, 5, 10, 50, 150, 30, 4} {
		for range count {
			checkBest(t, k, drawnPattern(draw, k, k+draw.Intn(8-k)))
		}
	}
}

// Renaming the variables moves what is best away from the first orders.
func TestBestPlanOfRenamedPatterns(t *testing.T) {
	shapes := [][][]int{
		{{0, 1}, {1, 2}, {2, 3}, {3, 4}},
		{{0, 1}, {0, 2}, {0, 3}, {0, 4}},
		{{0, 1}, {1, 2}, {0, 2}, {2, 3}, {3, 4}},
		{{0, 1, 2}, {2, 3}, {3, 4}, {2, 4}},
	}
	moved := 0
	for _, shape := range shapes {
		for i, names := range allOrders(5) {
			if i%7 != 0 {
				continue
			}
			edges := cloneLists(shape)
			for _, edge := range edges {
				for j, v := range edge {
					edge[j] = names[v]
				}
				slices.Sort(edge)
			}
			checkBest(t, 5, edges)
			if order, _ := impl.BestPlan(5, edges); order[0] != 0 {
				moved++
			}
		}
	}
	if moved == 0 {
		t.Error("every best order begins with 0")
	}
}

// The largest patterns: all 720 orders, and every bag that comes up in them.
func TestBestPlanOfLargestPatterns(t *testing.T) {
	draw := rand.New(rand.NewSource(44))
	start := time.Now()
	const count = 60
	for range count {
		edges := drawnPattern(draw, impl.MaxVars, impl.MaxAtoms)
		order, plan := impl.BestPlan(impl.MaxVars, edges)
		if len(order) != impl.MaxVars || !impl.PlanOK(impl.MaxVars, edges, plan) {
			t.Fatalf("BestPlan(%d, %v) = %v %v", impl.MaxVars, edges, order, plan)
		}
	}
	if each := time.Since(start) / count; each > time.Second {
		t.Errorf("one pattern takes %v", each)
	}
}

func TestBestPlanIsTheSameAtEveryCall(t *testing.T) {
	edges := [][]int{{0, 1}, {1, 2}, {2, 3}, {3, 4}, {4, 5}, {0, 5}, {1, 4}}
	wantOrder, want := impl.BestPlan(6, edges)
	check := func() {
		if order, plan := impl.BestPlan(6, edges); !slices.Equal(order, wantOrder) || !samePlan(plan, want) {
			t.Errorf("%v %v, at first %v %v", order, plan, wantOrder, want)
		}
	}
	for range 50 {
		check()
	}
	var callers sync.WaitGroup
	for range 8 {
		callers.Add(1)
		go func() {
			defer callers.Done()
			for range 10 {
				check()
			}
		}()
	}
	callers.Wait()
}

// A worker that has told its joiner may need a moment to be gone, so this waits a little.
func TestBestPlanLeavesNoWorkers(t *testing.T) {
	before := runtime.NumGoroutine()
	for range 50 {
		impl.BestPlan(4, [][]int{{0, 1}, {1, 2}, {2, 3}})
	}
	for range 200 {
		if runtime.NumGoroutine() <= before {
			return
		}
		time.Sleep(10 * time.Millisecond)
	}
	t.Errorf("%d goroutines, %d before", runtime.NumGoroutine(), before)
}

func TestBestPlanIsNewMemory(t *testing.T) {
	plain := [][]int{{0, 1}, {1, 2}, {0, 2}, {0, 1}}
	edges := guarded(plain)
	order, plan := impl.BestPlan(3, edges)
	wantOrder, want := slices.Clone(order), clonePlan(plan)
	secondOrder, second := impl.BestPlan(3, edges)
	spoilPlan(t, order, plan)
	thirdOrder, third := impl.BestPlan(3, edges)
	if !slices.Equal(secondOrder, wantOrder) || !samePlan(second, want) || !slices.Equal(thirdOrder, wantOrder) || !samePlan(third, want) {
		t.Error("two answers share memory")
	}
	if !sameLists(edges, plain) {
		t.Error("an answer shares memory with the argument")
	}
	if !guardsHold(edges) {
		t.Error("the argument was written into, behind its end")
	}
}
