package tests

import (
	"math"
	"math/rand"
	"slices"
	"strings"
	"testing"

	"loop.example/s01205/impl"
)

func TestRunLimitsThatAreAllowed(t *testing.T) {
	d, q := read(t, runText), parsed(t, "q(x) :- e(x, x).")
	for _, limit := range []int{1, 2, 1000, impl.MaxLimit - 1, impl.MaxLimit} {
		checkRun(t, d, q, limit, okResult([][]int{{4}}, rat(1, 1), 1))
	}
	checkRun(t, d, q, 0, limitResult(0, rat(1, 1), 1))
	// Without visits the least limit is enough.
	checkRun(t, d, parsed(t, "q() :- e(1, 2)."), 0, okResult([][]int{{}}, rat(0, 1), 0))
	checkRun(t, d, parsed(t, "q(; sum) :- e(1, 2)."), 0, okResult([][]int{{}}, rat(0, 1), 0, 5))
	checkRun(t, d, parsed(t, "q(x) :- none(x, y)."), 0, okResult(nil, rat(1, 1), 0))
	if impl.MaxLimit != 1000000000 {
		t.Error(impl.MaxLimit)
	}
}

// A limit that isn't allowed comes ahead of all that is wrong elsewhere.
func TestRunLimitsThatArent(t *testing.T) {
	d := read(t, runText)
	bad := read(t, runText)
	bad.Rels[0].Weights = nil
	for _, limit := range []int{-1, -2, -impl.MaxLimit, impl.MaxLimit + 1, 2 * impl.MaxLimit, 1 << 32, 1<<32 + 1, math.MinInt, math.MinInt + 1, math.MaxInt} {
		for _, text := range []string{"q(x) :- e(x, x).", "q() :- e(1, 2).", "q(; min) :- e(x, y).", "q(x) :- none(x, y).", "q(x) :- f(x).", "q(x) :- e(x).", "q(z) :- e(x, y)."} {
			checkRun(t, d, parsed(t, text), limit, badResult())
			checkRun(t, bad, parsed(t, text), limit, badResult())
		}
		for _, q := range badShapes() {
			checkRun(t, d, q, limit, badResult())
		}
		checkRun(t, impl.Data{}, impl.Query{}, limit, badResult())
		checkRun(t, cycle(73, 137), cycleQuery(impl.RingNone), limit, badResult())
	}
}

func TestRunFaults(t *testing.T) {
	d := checkData()
	cases := []struct {
		text       string
		why, place int
	}{
		{"q() :- a(1), a(1), a(1), a(1), a(1), a(1), a(1), b(1, x).", impl.CheckAtoms, 0},
		{"q() :- b(1).", impl.CheckRel, 0},
		{"q() :- a(1), a(2), b(1).", impl.CheckRel, 2},
		{"q() :- a(1, 2).", impl.CheckArity, 0},
		{"q() :- a(1), e(x, y), t(x, y).", impl.CheckArity, 2},
		{"q() :- t(a, b, c), t(d, f, g), a(h).", impl.CheckVars, 0},
		{"q(h) :- a(x).", impl.CheckHead, 0},
		{"q(x, y, x) :- e(x, y).", impl.CheckHead, 2},
		{"q(x, x; sum) :- t(a, b, c), t(d, f, g), e(h, i).", impl.CheckVars, 0},
	}
	bad := checkData()
	bad.Rels[2].Arity = 4
	for _, c := range cases {
		for _, limit := range []int{0, 5, impl.MaxLimit} {
			checkRun(t, d, parsed(t, c.text), limit, checkResult(c.why, c.place))
			checkRun(t, bad, parsed(t, c.text), limit, checkResult(impl.CheckData, 0))
		}
	}
	for _, q := range badShapes() {
		checkRun(t, d, q, 5, checkResult(impl.CheckShape, 0))
		checkRun(t, bad, q, 5, checkResult(impl.CheckData, 0))
	}
	checkRun(t, impl.Data{}, impl.Query{}, 0, checkResult(impl.CheckShape, 0))
	checkRun(t, countedRelations(impl.MaxRels+1), parsed(t, "q() :- r0(x)."), 5, checkResult(impl.CheckData, 0))
	checkRun(t, countedRelations(impl.MaxRels), parsed(t, "q() :- r0(x)."), 5, okResult(nil, rat(1, 1), 0))
	checkRun(t, dataOf(countedRelation(impl.MaxRows+1)), parsed(t, "q() :- e(x)."), 5, checkResult(impl.CheckData, 0))
}

// Data and queries with a few faults, against what CheckQuery and the oracle say.
func TestRunFaultsAgainstOracle(t *testing.T) {
	draw := rand.New(rand.NewSource(75))
	codes := map[int]int{}
	for range 6000 {
		d, q := checkData(), drawnFor(draw, "wxyz", 5)
		for range draw.Intn(4) {
			spoilAtRandom(draw, &d, &q)
		}
		limit := []int{-1, 0, 1, 3, 5, impl.MaxLimit, impl.MaxLimit + 1}[draw.Intn(7)]
		want := badResult()
		if limit >= 0 && limit <= impl.MaxLimit {
			why, place := impl.CheckQuery(d, q)
			want = checkResult(why, place)
			if why == impl.CheckOK {
				want = oracleRun(d, q, limit)
			}
		}
		checkRun(t, d, q, limit, want)
		codes[want.Code]++
	}
	for _, code := range []int{impl.RunOK, impl.RunCheck, impl.RunLimit, impl.RunBad} {
		if codes[code] < 500 {
			t.Errorf("code %d came only %d times", code, codes[code])
		}
	}
}

func TestRunLongLists(t *testing.T) {
	d := checkData()
	checkRun(t, d, queryOf("q", slices.Repeat([]string{"x"}, 100000), impl.RingNone, atomOf("a", v("x"))), 5, checkResult(impl.CheckHead, 1))
	checkRun(t, d, queryOf("q", nil, impl.RingNone, atomOf("a", slices.Repeat([]impl.Term{n(1)}, 100000)...)), 5, checkResult(impl.CheckArity, 0))
	checkRun(t, d, queryOf("q", nil, impl.RingNone, slices.Repeat([]impl.Atom{atomOf("a", n(1))}, 100000)...), 5, checkResult(impl.CheckAtoms, 0))
	checkRun(t, d, queryOf(strings.Repeat("q", 100000), nil, impl.RingNone, atomOf("a", n(1))), 5, checkResult(impl.CheckShape, 0))
}

// The visits are the bags', and just as many are allowed.
func TestRunJustAtTheVisits(t *testing.T) {
	d := read(t, runText)
	cases := []struct {
		text   string
		width  impl.Rat
		visits int
	}{
		{"q(x, y) :- e(x, y).", rat(1, 1), 13},
		{"q(x; sum) :- e(x, y), e(y, z).", rat(1, 1), 22},
		{"q(; count) :- e(x, y), e(y, z), e(x, z).", rat(3, 2), 24},
		{"q() :- v(x), v(y).", rat(1, 1), 4},
		{"q() :- v(x), e(3, 2).", rat(1, 1), 2},
		{"q() :- e(x, y), none(z, u).", rat(1, 1), 13},
		{"q(x; min) :- e(x, y), e(y, z), e(z, u), e(u, x).", rat(2, 1), 43},
	}
	for _, c := range cases {
		q := parsed(t, c.text)
		for _, limit := range []int{c.visits, c.visits + 1, impl.MaxLimit} {
			if r := impl.Run(d, q, limit); r.Code != impl.RunOK || r.Why != 0 || r.Place != 0 || r.Width != c.width || r.Visits != c.visits {
				t.Errorf("%s with the limit %d: %v", c.text, limit, r)
			}
		}
		for _, limit := range []int{c.visits - 1, c.visits / 2, 0} {
			checkRun(t, d, q, limit, limitResult(0, c.width, c.visits))
		}
	}
}

// cycle: e and h meet in one value of x, so that a bag of the query has left
// times right pairs; f and g let y, z and w be alike, so that there are few
// answers.
func cycle(left, right int) impl.Data {
	most := max(left, right)
	alike := func(i int) []int { return []int{i, i} }
	return dataOf(
		pairs("e", left, func(i int) []int { return []int{0, i} }),
		pairs("f", most, alike),
		pairs("g", most, alike),
		pairs("h", right, func(i int) []int { return []int{i, 0} }),
	)
}

func cycleQuery(ring int) impl.Query {
	return queryOf("q", []string{"z"}, ring, atomOf("e", v("x"), v("y")), atomOf("f", v("y"), v("z")), atomOf("g", v("z"), v("w")), atomOf("h", v("w"), v("x")))
}

// grown is the triangle's data: every pair of n values.
func grown(n int) impl.Data {
	return dataOf(pairs("e", n*n, func(i int) []int { return []int{i / n, i % n} }))
}

// A bag with more than MaxTable prefixes gives visits of -1, whatever the
// limit, also where the join of all tables is small; just MaxTable are joined.
func TestRunOfBagsThatAreTooGreat(t *testing.T) {
	triangle := parsed(t, "q(x, y, z) :- e(x, y), e(y, z), e(x, z).")
	for _, limit := range []int{0, 1, 100, impl.MaxLimit} {
		for ring := range 4 {
			checkRun(t, cycle(73, 137), cycleQuery(ring), limit, limitResult(0, rat(2, 1), -1))
			checkRun(t, cycle(137, 73), cycleQuery(ring), limit, limitResult(0, rat(2, 1), -1))
			checkRun(t, cycle(2, 2000), cycleQuery(ring), 0, limitResult(0, rat(2, 1), 1+2+4000+2+2+2+2000+2000+2000))
			triangle.Ring = ring
			checkRun(t, grown(22), triangle, limit, limitResult(0, rat(3, 2), -1))
		}
	}
	tables := impl.Bind(cycle(73, 137), cycleQuery(impl.RingNone))
	if rows, visits := impl.Join(tables, upTo(4)); visits < 0 || len(rows) != 73 {
		t.Errorf("%d rows and %d visits", len(rows), visits)
	}
	// Bag 0 is x y w, bag 1 is y z w, then z w and w.
	visits := (1 + 100 + 10000) + (100 + 100 + 100) + (100 + 100) + 100
	var rows [][]int
	for i := range 100 {
		rows = append(rows, []int{i})
	}
	checkRun(t, cycle(100, 100), cycleQuery(impl.RingNone), visits, okResult(rows, rat(2, 1), visits))
	checkRun(t, cycle(100, 100), cycleQuery(impl.RingCount), visits, okResult(rows, rat(2, 1), visits, slices.Repeat([]int{1}, 100)...))
	checkRun(t, cycle(100, 100), cycleQuery(impl.RingCount), visits-1, limitResult(0, rat(2, 1), visits))
	triangle.Ring, triangle.Head = impl.RingCount, nil
	checkRun(t, grown(21), triangle, impl.MaxLimit, okResult([][]int{{}}, rat(3, 2), 21+441+9261+21+441+21, 9261))
}

// The join of all tables in the order of the variables may have too many
// prefixes though no bag has: that is told by Why, if the visits are allowed.
func TestRunOfAWholeThatIsTooGreat(t *testing.T) {
	two := func(left, right int) impl.Data {
		return dataOf(counted("a", 0, left), counted("b", 0, right), counted("c", 0, 5), counted("d", 5, 5), relation("none", 1, nil))
	}
	one := rat(1, 1)
	for ring := range 4 {
		for _, head := range [][]string{nil, {"x"}, {"y", "x"}} {
			q := crossed(head, ring, "a", "b")
			checkRun(t, two(73, 137), q, 210, limitResult(1, one, 210))
			checkRun(t, two(137, 73), q, impl.MaxLimit, limitResult(1, one, 210))
			checkRun(t, two(73, 137), q, 209, limitResult(0, one, 210))
			checkRun(t, two(73, 137), q, 0, limitResult(0, one, 210))
			checkRun(t, two(2000, 6), q, 2006, limitResult(1, one, 2006))
			if r := impl.Run(two(100, 100), q, 200); r.Code != impl.RunOK || r.Why != 0 || len(r.Rows) == 0 || r.Visits != 200 {
				t.Errorf("%v, just 10000 prefixes: %s", q, short(r))
			}
			if r := impl.Run(two(2000, 5), q, 2005); r.Code != impl.RunOK || r.Why != 0 || len(r.Rows) == 0 || r.Visits != 2005 {
				t.Errorf("%v, just 10000 prefixes: %s", q, short(r))
			}
		}
	}
	checkRun(t, two(100, 100), crossed(nil, impl.RingCount, "a", "b"), 200, okResult([][]int{{}}, one, 200, 10000))
	d := two(73, 137)
	// No answer, but the prefixes are there ahead of the variable that has none.
	checkRun(t, d, parsed(t, "q() :- a(x), b(y), c(z), d(z)."), 1000, limitResult(1, one, 210))
	checkRun(t, d, parsed(t, "q(; sum) :- a(x), c(z), b(y), d(z)."), 1000, okResult(nil, one, 210))
	checkRun(t, d, parsed(t, "q() :- c(z), d(z), a(x), b(y)."), 1000, okResult(nil, one, 210))
	checkRun(t, d, parsed(t, "q() :- a(x), b(y), none(z)."), 1000, okResult(nil, one, 210))
	checkRun(t, d, parsed(t, "q() :- a(x), b(y), c(9)."), 1000, okResult(nil, one, 210))
	checkRun(t, d, parsed(t, "q() :- a(x), b(y), c(4)."), 1000, limitResult(1, one, 210))
}

// A path whose middle has one value: few rows in every bag, many in all.
func TestRunOfAPathThatIsTooGreat(t *testing.T) {
	path := func(left, right int) impl.Data {
		return dataOf(
			pairs("e", left, func(i int) []int { return []int{i, 7} }),
			pairs("f", right, func(i int) []int { return []int{7, i} }),
		)
	}
	q := parsed(t, "q(y; count) :- e(x, y), f(y, z).")
	// The bags are x y, y z and z.
	checkRun(t, path(73, 137), q, 421, limitResult(1, rat(1, 1), 73+73+1+137+137))
	checkRun(t, path(73, 137), q, 420, limitResult(0, rat(1, 1), 421))
	checkRun(t, path(100, 100), q, 401, okResult([][]int{{7}}, rat(1, 1), 401, 10000))
	// Both a bag and the whole are too great: the bag is told.
	both := grown(22)
	checkRun(t, both, parsed(t, "q() :- e(x, y), e(y, z), e(x, z), e(u, w)."), impl.MaxLimit, limitResult(0, rat(3, 2), -1))
	// The bags are u w and w, and those of the triangle.
	visits := 21 + 441 + 21 + 21 + 441 + 9261 + 21 + 441 + 21
	checkRun(t, grown(21), parsed(t, "q() :- e(x, y), e(y, z), e(x, z), e(u, w)."), impl.MaxLimit, limitResult(1, rat(3, 2), visits))
}

// The whole is joined in the order of the variables, not in that of the plan:
// here the two differ, and only one of them has many prefixes.
func TestRunOfOrdersThatDiffer(t *testing.T) {
	steps := func(n int) impl.Data {
		return dataOf(pairs("e", n, func(i int) []int { return []int{i, i + 1} }), counted("a", 0, n))
	}
	star := "q() :- e(m, x), e(m, y), e(m, z)."
	if !strings.HasPrefix(impl.Explain(impl.PrintData(steps(1)), star), "order x y m z\n") {
		t.Error("the star's order begins with two variables that share no atom")
	}
	checkRun(t, steps(101), parsed(t, star), 707, okResult([][]int{{}}, rat(1, 1), 707))
	bent := "q() :- a(x), a(y), e(x, p), e(x, r), e(y, p)."
	if !strings.HasPrefix(impl.Explain(impl.PrintData(steps(1)), bent), "order y p x r\n") {
		t.Error("the first two variables share no atom, but the order doesn't begin with them")
	}
	checkRun(t, steps(101), parsed(t, bent), 707, limitResult(1, rat(1, 1), 707))
	checkRun(t, steps(100), parsed(t, bent), 700, okResult([][]int{{}}, rat(1, 1), 700))
}

// drawnPairs draws pairs of values below n; those that come again count once.
func drawnPairs(draw *rand.Rand, name string, count, n int) impl.Relation {
	var rows [][]int
	for range count {
		rows = append(rows, []int{draw.Intn(n), draw.Intn(n)})
	}
	x := tableOf([]int{0, 1}, rows...)
	return relation(name, 2, x.Rows, x.Weights...)
}

// RunLimit comes exactly as 7.1 says, about MaxTable prefixes and about the limit.
func TestRunLimitExactly(t *testing.T) {
	draw := rand.New(rand.NewSource(76))
	texts := []string{
		"q(x; count) :- e(x, y), f(y, z).",
		"q(x, z) :- e(x, y), f(y, z), e(z, u).",
		"q(z; sum) :- e(x, y), f(y, z), e(x, z).",
		"q(; min) :- e(x, y), f(y, z), e(z, u), f(u, x).",
		"q(x; sum) :- e(x, y), f(z, y), e(z, u), f(x, u).",
		"q(; count) :- e(x, y), f(z, u).",
		"q(u) :- e(x, 1), f(z, 2), e(y, u), f(x, 3).",
	}
	counts := map[string]int{}
	for range 400 {
		count, values := draw.Intn(1500), 3+draw.Intn(45)
		d := dataOf(drawnPairs(draw, "e", count, values), drawnPairs(draw, "f", count, values))
		q := parsed(t, texts[draw.Intn(len(texts))])
		tables, k := impl.Bind(d, q), len(impl.Variables(q))
		_, plan := impl.BestPlan(k, varsOf(tables))
		_, visits := impl.BagTables(k, tables, plan)
		_, whole := impl.Join(tables, upTo(k))
		limit := askedOf(draw, max(0, visits))
		switch {
		case visits < 0:
			counts["great bags"]++
			checkRun(t, d, q, limit, limitResult(0, plan.Width, -1))
		case visits > limit:
			counts["visits"]++
			checkRun(t, d, q, limit, limitResult(0, plan.Width, visits))
		case whole < 0:
			counts["a great whole"]++
			checkRun(t, d, q, limit, limitResult(1, plan.Width, visits))
		default:
			counts["rows"]++
			want := okResult(nil, plan.Width, visits)
			if q.Ring == impl.RingNone {
				want.Rows = impl.Enumerate(k, tables, plan, headOf(q))
			} else {
				want.Rows, want.Values = impl.Aggregate(k, tables, plan, headOf(q), q.Ring)
			}
			checkRun(t, d, q, limit, want)
		}
	}
	for _, what := range []string{"great bags", "visits", "a great whole", "rows"} {
		if counts[what] < 20 {
			t.Errorf("%s came only %d times", what, counts[what])
		}
	}
}
