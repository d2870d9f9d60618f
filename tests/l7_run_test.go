package tests

import (
	"math/rand"
	"runtime"
	"slices"
	"sync"
	"testing"
	"time"

	"loop.example/s01205/impl"
)

// runText: of e one row has a value twice, one weight is below 0.
const runText = "rel e 2\ne 1 2 5\ne 2 3 7\ne 1 3 2\ne 3 1 1\ne 4 4 -3\nrel v 1\nv 2 4\nv 4 -2\nrel none 2\n"

func TestRunPinned(t *testing.T) {
	all := [][]int{{1, 2}, {1, 3}, {2, 3}, {3, 1}, {4, 4}}
	turned := [][]int{{1, 3}, {2, 1}, {3, 1}, {3, 2}, {4, 4}}
	each := [][]int{{1}, {2}, {3}, {4}}
	squares := [][]int{{2, 2}, {2, 4}, {4, 2}, {4, 4}}
	one, zero := rat(1, 1), rat(0, 1)
	cases := []struct {
		text string
		want impl.Result
	}{
		{"q(x, y) :- e(x, y).", okResult(all, one, 13)},
		{"q(y, x) :- e(x, y).", okResult(turned, one, 13)},
		{"q(x, y) :- e(y, x).", okResult(turned, one, 13)},
		{"q(x) :- e(x, y).", okResult(each, one, 13)},
		{"q() :- e(x, y).", okResult([][]int{{}}, one, 13)},
		{"q(x; count) :- e(x, y).", okResult(each, one, 13, 2, 1, 1, 1)},
		{"q(y; count) :- e(x, y).", okResult(each, one, 13, 1, 1, 2, 1)},
		{"q(x; sum) :- e(x, y).", okResult(each, one, 13, 7, 7, 1, -3)},
		{"q(x; min) :- e(x, y).", okResult(each, one, 13, 2, 7, 1, -3)},
		{"q(y; min) :- e(x, y).", okResult(each, one, 13, 1, 5, 2, -3)},
		{"q(; sum) :- e(x, y).", okResult([][]int{{}}, one, 13, 12)},
		{"q(; min) :- e(x, y).", okResult([][]int{{}}, one, 13, -3)},
		// A constant, and a variable that comes twice.
		{"q(y) :- e(1, y).", okResult([][]int{{2}, {3}}, one, 2)},
		{"q(x; sum) :- e(x, 3).", okResult([][]int{{1}, {2}}, one, 2, 2, 7)},
		{"q(x) :- e(x, 9).", okResult(nil, one, 0)},
		{"q(x) :- e(x, x).", okResult([][]int{{4}}, one, 1)},
		{"q() :- e(x, x).", okResult([][]int{{}}, one, 1)},
		{"q(; sum) :- e(x, x), v(x).", okResult([][]int{{}}, one, 1, 6)},
		{"q(; min) :- e(x, x), v(x).", okResult([][]int{{}}, one, 1, -5)},
		// The same atom twice counts for each of them.
		{"q(x; count) :- e(x, y), e(x, y).", okResult(each, one, 13, 2, 1, 1, 1)},
		{"q(x; sum) :- e(x, y), e(x, y).", okResult(each, one, 13, 29, 49, 1, 9)},
		{"q(x; min) :- e(x, y), e(x, y).", okResult(each, one, 13, 4, 14, 2, -6)},
		// Atoms that have no variable in common.
		{"q(x, y) :- v(x), v(y).", okResult(squares, one, 4)},
		{"q(y, x; sum) :- v(x), v(y).", okResult(squares, one, 4, 16, -8, -8, 4)},
		{"q(x; sum) :- v(x), v(y).", okResult([][]int{{2}, {4}}, one, 4, 8, -4)},
		{"q(y; min) :- v(x), v(y).", okResult([][]int{{2}, {4}}, one, 4, 2, -4)},
		{"q(; count) :- v(x), v(y), v(z).", okResult([][]int{{}}, one, 6, 8)},
		// No answer at all.
		{"q(x) :- none(x, y).", okResult(nil, one, 0)},
		{"q(x) :- e(x, y), none(y, z).", okResult(nil, one, 0)},
		{"q(x; count) :- e(x, y), none(z, u).", okResult(nil, one, 13)},
		{"q(; sum) :- none(x, y).", okResult(nil, one, 0)},
		{"q(; min) :- v(x), e(x, x), e(x, 1).", okResult(nil, one, 0)},
		// Two atoms, one behind the other, and a triangle.
		{"q(x, z) :- e(x, y), e(y, z).", okResult([][]int{{1, 1}, {1, 3}, {2, 1}, {3, 2}, {3, 3}, {4, 4}}, one, 22)},
		{"q(x; sum) :- e(x, y), e(y, z).", okResult(each, one, 22, 37, 7, 7, 9)},
		{"q(x, y, z) :- e(x, y), e(y, z), e(x, z).", okResult([][]int{{1, 2, 3}, {4, 4, 4}}, rat(3, 2), 24)},
		{"q(; sum) :- e(x, y), e(y, z), e(x, z).", okResult([][]int{{}}, rat(3, 2), 24, 43)},
		{"q(z; min) :- e(x, y), e(y, z), e(x, z).", okResult([][]int{{3}, {4}}, rat(3, 2), 24, 14, -9)},
		// Without variables there is an answer exactly if all atoms are there.
		{"q() :- e(1, 2).", okResult([][]int{{}}, zero, 0)},
		{"q() :- e(2, 1).", okResult(nil, zero, 0)},
		{"q() :- e(1, 2), v(2), e(4, 4).", okResult([][]int{{}}, zero, 0)},
		{"q() :- e(1, 2), v(3), e(4, 4).", okResult(nil, zero, 0)},
		{"q() :- none(1, 1).", okResult(nil, zero, 0)},
		{"q(; count) :- e(1, 2), v(2), v(4).", okResult([][]int{{}}, zero, 0, 1)},
		{"q(; sum) :- e(1, 2), v(2), v(4).", okResult([][]int{{}}, zero, 0, -40)},
		{"q(; min) :- e(1, 2), v(2), v(4).", okResult([][]int{{}}, zero, 0, 7)},
		{"q(; count) :- e(1, 2), v(1).", okResult(nil, zero, 0)},
		{"q(; sum) :- e(1, 2), v(1).", okResult(nil, zero, 0)},
		{"q(; min) :- e(1, 2), v(1).", okResult(nil, zero, 0)},
		// An atom without variables beside others.
		{"q(x) :- v(x), e(2, 3).", okResult([][]int{{2}, {4}}, one, 2)},
		{"q(x; sum) :- v(x), e(2, 3).", okResult([][]int{{2}, {4}}, one, 2, 28, -14)},
		{"q(x; min) :- e(2, 3), v(x).", okResult([][]int{{2}, {4}}, one, 2, 11, 5)},
		{"q(x) :- v(x), e(3, 2).", okResult(nil, one, 2)},
		{"q(x; count) :- e(3, 2), v(x).", okResult(nil, one, 2)},
	}
	for _, c := range cases {
		checkRun(t, read(t, runText), parsed(t, c.text), 1000, c.want)
		checkRun(t, read(t, runText), parsed(t, c.text), c.want.Visits, c.want)
	}
}

// askedOf draws a limit about the visits, and one that is allowed always.
func askedOf(draw *rand.Rand, visits int) int {
	return max(0, []int{visits - 1, visits, visits + 1, draw.Intn(visits + 2), impl.MaxLimit}[draw.Intn(5)])
}

func TestRunAgainstEveryChoice(t *testing.T) {
	draw := rand.New(rand.NewSource(71))
	var rows, wide int
	codes := map[int]int{}
	for i := range 3000 {
		names := "wxyz"
		if i%30 == 0 {
			names = "uvwxyz"
		}
		d, q := drawnData(draw), drawnFor(draw, names, 7)
		known := outlookOf(d, q)
		for ring := range 4 {
			q.Ring = ring
			checkRun(t, d, q, impl.MaxLimit, known.result(q, impl.MaxLimit))
		}
		q.Ring = draw.Intn(4)
		limit := askedOf(draw, known.visits)
		want := known.result(q, limit)
		checkRun(t, d, q, limit, want)
		codes[want.Code]++
		rows += len(want.Rows)
		if want.Width.Den > 1 {
			wide++
		}
	}
	if rows < 3000 || wide < 50 || codes[impl.RunOK] < 1000 || codes[impl.RunLimit] < 500 {
		t.Errorf("%d rows, %d broken widths, codes %v", rows, wide, codes)
	}
}

// The engine puts together what chapters 3 to 6 answer.
func TestRunAgainstTheOtherChapters(t *testing.T) {
	draw := rand.New(rand.NewSource(72))
	for range 1500 {
		d, q := drawnData(draw), drawnFor(draw, "uvwxyz"[:1+draw.Intn(6)], 7)
		tables, k := impl.Bind(d, q), len(impl.Variables(q))
		_, plan := impl.BestPlan(k, varsOf(tables))
		_, visits := impl.BagTables(k, tables, plan)
		want := okResult(nil, plan.Width, visits)
		if q.Ring == impl.RingNone {
			want.Rows = impl.Enumerate(k, tables, plan, headOf(q))
		} else {
			want.Rows, want.Values = impl.Aggregate(k, tables, plan, headOf(q), q.Ring)
		}
		checkRun(t, d, q, visits, want)
	}
}

// Every head there is, in every order.
func TestRunOfEveryHead(t *testing.T) {
	draw := rand.New(rand.NewSource(73))
	texts := []string{
		"q() :- e(x, y), e(y, z), e(z, x).",
		"q() :- t(x, y, z), a(y).",
		"q() :- e(z, x), e(y, y), a(2).",
		"q() :- e(x, y), e(y, z), a(u).",
		"q() :- t(x, u, z), e(u, y), t(y, 1, x).",
	}
	for _, text := range texts {
		d, q := drawnData(draw), parsed(t, text)
		known, names := outlookOf(d, q), namesIn(q)
		for _, places := range allHeads(len(names)) {
			q.Head = nil
			for _, place := range places {
				q.Head = append(q.Head, names[place])
			}
			for ring := range 4 {
				q.Ring = ring
				checkRun(t, d, q, known.visits, known.result(q, known.visits))
			}
		}
	}
}

// Atoms in another order number the variables anew, and may lead to another
// plan, but to no other rows.
func TestRunOfAtomsInEveryOrder(t *testing.T) {
	draw := rand.New(rand.NewSource(74))
	texts := []string{
		"q(z, x; sum) :- e(x, y), e(y, z), e(z, u), e(u, x).",
		"q(x; count) :- e(x, y), a(y), t(y, z, x), e(z, 2).",
		"q(z, y, x) :- a(x), e(z, y), a(1), e(x, x).",
		"q(; min) :- e(x, y), e(x, y), e(y, x), t(x, y, z).",
	}
	for _, text := range texts {
		d, q := drawnData(draw), parsed(t, text)
		want := impl.Run(d, q, impl.MaxLimit)
		for _, order := range allOrders(4) {
			moved := cloneQuery(q)
			for i, place := range order {
				moved.Atoms[i] = q.Atoms[place]
			}
			got := impl.Run(d, moved, impl.MaxLimit)
			if got.Code != impl.RunOK || !sameLists(got.Rows, want.Rows) || !slices.Equal(got.Values, want.Values) || got.Width != want.Width {
				t.Errorf("%s: %v, want %v", impl.PrintQuery(moved), got, want)
			}
			checkRun(t, d, moved, got.Visits, oracleRun(d, moved, got.Visits))
		}
	}
}

// The names of variables are nothing but names, also those of relations.
func TestRunOfRenamedVariables(t *testing.T) {
	d := read(t, runText)
	for _, text := range []string{"q(y, x; sum) :- e(x, y), v(x).", "e(v, e; sum) :- e(e, v), v(e).", "v(q, rel; sum) :- e(rel, q), v(rel).", "sum(min, count; sum) :- e(count, min), v(count)."} {
		checkRun(t, d, parsed(t, text), 1000, okResult([][]int{{3, 2}, {4, 4}}, rat(1, 1), 8, 28, 6))
	}
}

// Seven weights of MaxWeight: their product leaves 64 bits, and wraps round.
func TestRunWrapsRound(t *testing.T) {
	for _, weight := range []int{impl.MaxWeight, -impl.MaxWeight} {
		d := dataOf(relation("a", 1, [][]int{{0}, {1}, {2}}, weight, weight, 3))
		q := parsed(t, "q(; sum) :- a(x), a(x), a(x), a(x), a(x), a(y), a(y).")
		checkRun(t, d, q, 100, oracleRun(d, q, 100))
		q.Ring = impl.RingMin
		want := oracleRun(d, q, 100)
		checkRun(t, d, q, 100, want)
		if weight < 0 && !slices.Equal(want.Values, []int{-7 * impl.MaxWeight}) {
			t.Error(want)
		}
	}
}

// The least and the greatest values that data may have.
func TestRunOfValuesAtTheEdges(t *testing.T) {
	d := dataOf(relation("e", 2, [][]int{{0, impl.MaxValue}, {impl.MaxValue, 0}, {impl.MaxValue, impl.MaxValue}}, 2, 3, 5))
	checkRun(t, d, parsed(t, "q(y; sum) :- e(1000000, y)."), 10, okResult([][]int{{0}, {impl.MaxValue}}, rat(1, 1), 2, 3, 5))
	checkRun(t, d, parsed(t, "q(x) :- e(x, y), e(y, x), e(0, y)."), 10, okResult([][]int{{0}, {impl.MaxValue}}, rat(1, 1), 5))
	checkRun(t, d, parsed(t, "q(x, z; sum) :- e(x, y), e(y, z)."), 100,
		okResult([][]int{{0, 0}, {0, impl.MaxValue}, {impl.MaxValue, 0}, {impl.MaxValue, impl.MaxValue}}, rat(1, 1), 12, 6, 10, 15, 31))
}

// Each of the relations as large as it may be, and all variables and atoms.
func TestRunOfLargeRelations(t *testing.T) {
	d := dataOf(
		pairs("e", impl.MaxRows, func(i int) []int { return []int{i, i + 1} }),
		pairs("f", impl.MaxRows, func(i int) []int { return []int{i, impl.MaxRows - i} }),
	)
	q := parsed(t, "q(u, z; count) :- e(x, y), e(y, z), e(z, u), e(u, v), e(v, w), f(x, z), f(y, u).")
	r := impl.Run(d, q, impl.MaxLimit)
	// f(x, z) with z = x + 2 asks for x + x + 2 = 2000, f(y, u) for the same with y = x + 1: never both.
	if r.Code != impl.RunOK || len(r.Rows) != 0 {
		t.Error(short(r))
	}
	q.Atoms = q.Atoms[:6]
	if r = impl.Run(d, q, impl.MaxLimit); r.Code != impl.RunOK || !sameLists(r.Rows, [][]int{{1002, 1001}}) || !slices.Equal(r.Values, []int{1}) {
		t.Error(short(r))
	}
	q.Atoms = q.Atoms[:5]
	if r = impl.Run(d, q, impl.MaxLimit); r.Code != impl.RunOK || len(r.Rows) != 1996 || !slices.Equal(r.Rows[1995], []int{1998, 1997}) || r.Width != rat(1, 1) {
		t.Error(short(r))
	}
}

func TestRunIsTheSameAtEveryCall(t *testing.T) {
	d := bindData()
	q := parsed(t, "q(w, x; sum) :- e(x, y), e(y, z), e(z, w), e(w, x), t(x, y, w), a(u).")
	want := impl.Run(d, q, impl.MaxLimit)
	if want.Code != impl.RunOK || len(want.Rows) == 0 {
		t.Fatal(want)
	}
	check := func() {
		if got := impl.Run(d, q, impl.MaxLimit); !sameResult(got, want) {
			t.Errorf("%v, at first %v", got, want)
		}
	}
	for range 30 {
		check()
	}
	var callers sync.WaitGroup
	for range 8 {
		callers.Add(1)
		go func() {
			defer callers.Done()
			for range 10 {
				check()
			}
		}()
	}
	callers.Wait()
}

// A goroutine that has closed its channel may need a moment to be gone, so
// this waits a little. Where a join fails, those of the other bags end, too.
func TestRunLeavesNoGoroutines(t *testing.T) {
	before := runtime.NumGoroutine()
	for range 20 {
		impl.Run(bindData(), parsed(t, "q(x) :- e(x, y), e(y, z), e(z, w)."), 1000)
		impl.Run(bindData(), parsed(t, "q(x) :- e(x, y), e(y, z), e(z, w)."), 0)
		impl.Run(cycle(73, 137), cycleQuery(impl.RingNone), impl.MaxLimit)
	}
	for range 200 {
		if runtime.NumGoroutine() <= before {
			return
		}
		time.Sleep(10 * time.Millisecond)
	}
	t.Errorf("%d goroutines, %d before", runtime.NumGoroutine(), before)
}

func TestRunIsNewMemory(t *testing.T) {
	d, q := guardedData(bindData()), guardedQuery(parsed(t, "q(y, x; sum) :- e(x, y), e(y, z)."))
	first := impl.Run(d, q, 1000)
	want := impl.Result{Rows: cloneLists(first.Rows), Values: slices.Clone(first.Values), Width: first.Width, Visits: first.Visits}
	second := impl.Run(d, q, 1000)
	spoilResult(t, first)
	third := impl.Run(d, q, 1000)
	if !sameResult(second, want) || !sameResult(third, want) {
		t.Error("two answers share memory")
	}
	if !sameData(d, bindData()) || !dataHolds(d) || !queryHolds(q) {
		t.Error("an argument was written into")
	}
}
