package tests

import (
	"math"
	"math/rand"
	"slices"
	"testing"

	"loop.example/s01205/impl"
)

// askPlanOK asks PlanOK and holds the arguments against what they were.
func askPlanOK(t *testing.T, k int, edges [][]int, p impl.Plan) bool {
	t.Helper()
	edgesBefore, planBefore := cloneLists(edges), clonePlan(p)
	answer := impl.PlanOK(k, edges, p)
	if !sameLists(edges, edgesBefore) || !samePlan(p, planBefore) {
		t.Fatalf("PlanOK(%d, %v, %v) wrote into its arguments", k, edgesBefore, planBefore)
	}
	return answer
}

func pathEdges() [][]int { return [][]int{{0, 1}, {1, 2}} }

func pathPlan() impl.Plan {
	return impl.Plan{
		Bags: [][]int{{0, 1}, {1, 2}, {2}}, Parent: []int{1, 2, -1}, Home: []int{0, 1},
		Widths: []impl.Rat{rat(1, 1), rat(1, 1), rat(1, 1)}, Width: rat(1, 1),
	}
}

// chain has the bag again and again, each below the next.
func chain(count int, bag ...int) ([][]int, []int) {
	var bags [][]int
	var parent []int
	for i := range count {
		bags = append(bags, slices.Clone(bag))
		parent = append(parent, i+1)
	}
	parent[count-1] = -1
	return bags, parent
}

func TestConstantsOfPlans(t *testing.T) {
	if impl.MaxBags != 12 {
		t.Error(impl.MaxBags)
	}
}

func TestPlanOKOfValidPlans(t *testing.T) {
	path, triangle := pathEdges(), [][]int{{0, 1}, {1, 2}, {0, 2}}
	square := [][]int{{0, 1}, {1, 2}, {2, 3}, {0, 3}}
	twelve, twelveParents := chain(12, 0)
	six := [][]int{{0, 1, 2, 3, 4, 5}, {0}, {}, {1, 5}, {2}, {3}, {4}}
	cases := []struct {
		name  string
		k     int
		edges [][]int
		plan  impl.Plan
	}{
		{"the path's of an order", 3, path, pathPlan()},
		{"all variables in one bag", 3, path, plain(path, [][]int{{0, 1, 2}}, []int{-1}, []int{0, 0})},
		{"two bags for the path", 3, path, plain(path, [][]int{{0, 1}, {1, 2}}, []int{1, -1}, []int{0, 1})},
		{"the path's bags the other way round", 3, path, plain(path, [][]int{{1, 2}, {0, 1}}, []int{1, -1}, []int{1, 0})},
		{"a home that isn't the first", 3, path, plain(path, [][]int{{0, 1}, {0, 1, 2}}, []int{1, -1}, []int{1, 1})},
		{"a bag below two others", 3, triangle, plain(triangle, [][]int{{0}, {1}, {0, 1, 2}, {2}}, []int{2, 2, 3, -1}, []int{2, 2, 2})},
		{"the square by its diagonal", 4, square, plain(square, [][]int{{0, 1, 3}, {1, 2, 3}}, []int{1, -1}, []int{0, 1, 1, 0})},
		{"the square with a bag of the diagonal", 4, square, plain(square, [][]int{{0, 1, 3}, {1, 3}, {1, 2, 3}}, []int{1, 2, -1}, []int{0, 2, 2, 0})},
		{"parts apart, no parents", 2, [][]int{{0}, {1}}, plain([][]int{{0}, {1}}, [][]int{{1}, {0}}, []int{-1, -1}, []int{1, 0})},
		{"parts apart, one below the other", 2, [][]int{{0}, {1}}, plain([][]int{{0}, {1}}, [][]int{{1}, {0}}, []int{1, -1}, []int{1, 0})},
		{"parts apart, one between two of another", 2, [][]int{{0}, {1}}, plain([][]int{{0}, {1}}, [][]int{{0}, {1}, {0}}, []int{2, 2, -1}, []int{2, 1})},
		{"parts apart in one bag", 2, [][]int{{0}, {1}}, plain([][]int{{0}, {1}}, [][]int{{0, 1}}, []int{-1}, []int{0, 0})},
		{"MaxBags bags that are alike", 1, [][]int{{0}}, plain([][]int{{0}}, twelve, twelveParents, []int{7})},
		{"all to the last bag", 1, [][]int{{0}}, plain([][]int{{0}}, [][]int{{0}, {0}, {0}}, []int{2, 2, -1}, []int{0})},
		{"an empty edge between", 2, [][]int{{0}, {}, {0, 1}}, plain([][]int{{0}, {}, {0, 1}}, [][]int{{0, 1}}, []int{-1}, []int{0, -1, 0})},
		{"the same edge twice, two homes", 1, [][]int{{0}, {0}}, plain([][]int{{0}, {0}}, [][]int{{0}, {0}}, []int{1, -1}, []int{0, 1})},
		{"MaxVars and MaxAtoms", 6, six, plain(six, [][]int{{0, 1, 2, 3, 4, 5}}, []int{-1}, []int{0, 0, -1, 0, 0, 0, 0})},
		{"no variables and no edges", 0, nil, impl.Plan{Width: rat(0, 1)}},
		{"no variables and lists that aren't nil", 0, [][]int{}, impl.Plan{Bags: [][]int{}, Parent: []int{}, Home: []int{}, Widths: []impl.Rat{}, Width: rat(0, 1)}},
		{"no variables and an empty edge", 0, [][]int{{}}, impl.Plan{Home: []int{-1}, Width: rat(0, 1)}},
		{"no variables and MaxAtoms edges", 0, manyEdges(7), impl.Plan{Home: slices.Repeat([]int{-1}, 7), Width: rat(0, 1)}},
	}
	for _, c := range cases {
		if !askPlanOK(t, c.k, c.edges, c.plan) {
			t.Errorf("%s: %v", c.name, c.plan)
		}
		if !oraclePlanOK(c.k, c.edges, c.plan, widthsFor(c.edges)) {
			t.Errorf("%s: the oracle says no", c.name)
		}
	}
}

// noPatterns breaks each condition of a pattern; the plan is otherwise as right as it can be.
func noPatterns() []struct {
	name  string
	k     int
	edges [][]int
	plan  impl.Plan
} {
	one := func(home ...int) impl.Plan {
		return impl.Plan{Bags: [][]int{{0}}, Parent: []int{-1}, Home: home, Widths: []impl.Rat{rat(1, 1)}, Width: rat(1, 1)}
	}
	empty := func(homes int) impl.Plan {
		return impl.Plan{Home: slices.Repeat([]int{-1}, homes), Width: rat(0, 1)}
	}
	six := impl.Plan{Bags: [][]int{{0, 1, 2, 3, 4, 5}}, Parent: []int{-1}, Home: []int{0}, Widths: []impl.Rat{rat(1, 1)}, Width: rat(1, 1)}
	return []struct {
		name  string
		k     int
		edges [][]int
		plan  impl.Plan
	}{
		{"k is -1", -1, nil, empty(0)},
		{"k is -1 with an empty edge", -1, [][]int{{}}, empty(1)},
		{"k is the least int", math.MinInt, nil, empty(0)},
		{"k is one more than MaxVars", 7, [][]int{{0, 1, 2, 3, 4, 5}}, six},
		{"k is one more than MaxVars and has its edges", 7, [][]int{{0, 1, 2, 3, 4, 5, 6}}, impl.Plan{Bags: [][]int{{0, 1, 2, 3, 4, 5, 6}}, Parent: []int{-1}, Home: []int{0}, Widths: []impl.Rat{rat(1, 1)}, Width: rat(1, 1)}},
		{"k is the greatest int", math.MaxInt, [][]int{{0, 1, 2, 3, 4, 5}}, six},
		{"an edge too many", 1, manyEdges(8, 0), one(0, 0, 0, 0, 0, 0, 0, 0)},
		{"an empty edge too many", 0, manyEdges(8), empty(8)},
		{"very many edges", 1, manyEdges(100000, 0), one(slices.Repeat([]int{0}, 100000)...)},
		{"an edge has a variable twice", 1, [][]int{{0, 0}}, one(0)},
		{"an edge descends", 2, [][]int{{1, 0}}, impl.Plan{Bags: [][]int{{0, 1}}, Parent: []int{-1}, Home: []int{0}, Widths: []impl.Rat{rat(1, 1)}, Width: rat(1, 1)}},
		{"a second edge that is none", 1, [][]int{{0}, {0, 0}}, one(0, 0)},
		{"an edge goes below 0", 1, [][]int{{-1, 0}}, one(0)},
		{"an edge goes beyond MaxVars", 1, [][]int{{0, 6}}, one(0)},
		{"an edge has the greatest int", 1, [][]int{{0, math.MaxInt}}, one(0)},
		{"an edge has the least int", 1, [][]int{{math.MinInt, 0}}, one(0)},
		{"an edge is very long", 1, [][]int{slices.Repeat([]int{0}, 100000)}, one(0)},
		{"an edge has the variable k", 1, [][]int{{0, 1}}, one(0)},
		{"an edge is the variable k alone", 1, [][]int{{0}, {1}}, one(0, 0)},
		{"an edge has a variable and k is 0", 0, [][]int{{0}}, empty(1)},
		{"an edge has the last variable and k is less", 5, [][]int{{0, 1, 2, 3, 4, 5}}, six},
		{"a variable in no edge", 2, [][]int{{0}}, impl.Plan{Bags: [][]int{{0}, {1}}, Parent: []int{-1, -1}, Home: []int{0}, Widths: []impl.Rat{rat(1, 1), {}}, Width: rat(1, 1)}},
		{"the first variable in no edge", 2, [][]int{{1}}, impl.Plan{Bags: [][]int{{1}, {0}}, Parent: []int{-1, -1}, Home: []int{0}, Widths: []impl.Rat{rat(1, 1), {}}, Width: rat(1, 1)}},
		{"variables without edges", 1, nil, one()},
		{"variables and an empty edge", 1, [][]int{{}}, one(-1)},
	}
}

func TestPlanOKOfNoPatterns(t *testing.T) {
	for _, c := range noPatterns() {
		for _, plan := range []impl.Plan{c.plan, withWidths(c.edges, c.plan), {}, {Width: rat(0, 1)}} {
			if askPlanOK(t, c.k, c.edges, plan) {
				t.Errorf("%s: %v", c.name, plan)
			}
		}
	}
}

func TestPlanOKWithOneThingBroken(t *testing.T) {
	one := rat(1, 1)
	cases := []struct {
		name    string
		spoiled func(p *impl.Plan)
	}{
		{"a bag descends", func(p *impl.Plan) { p.Bags[0] = []int{1, 0} }},
		{"a bag has a variable twice", func(p *impl.Plan) { p.Bags[2] = []int{2, 2} }},
		{"a bag goes below 0", func(p *impl.Plan) { p.Bags[2] = []int{-1, 2} }},
		{"a bag has the variable k", func(p *impl.Plan) { p.Bags[2] = []int{2, 3} }},
		{"a bag goes beyond MaxVars", func(p *impl.Plan) { p.Bags[2] = []int{2, 6} }},
		{"a bag has the greatest int", func(p *impl.Plan) { p.Bags[2] = []int{2, math.MaxInt} }},
		{"a bag has the least int", func(p *impl.Plan) { p.Bags[2] = []int{math.MinInt, 2} }},
		{"a bag is very long", func(p *impl.Plan) { p.Bags[2] = slices.Repeat([]int{2}, 100000) }},
		{"a bag lacks what hangs on it", func(p *impl.Plan) { p.Bags[1] = []int{2} }},
		{"no bags", func(p *impl.Plan) { p.Bags = nil }},
		{"no bags and no parents", func(p *impl.Plan) { p.Bags, p.Parent = nil, nil }},
		{"a parent is missing", func(p *impl.Plan) { p.Parent = p.Parent[:2] }},
		{"a parent too many", func(p *impl.Plan) { p.Parent = append(p.Parent, -1) }},
		{"no parents", func(p *impl.Plan) { p.Parent = nil }},
		{"a parent is -2", func(p *impl.Plan) { p.Parent[2] = -2 }},
		{"a parent is the least int", func(p *impl.Plan) { p.Parent[2] = math.MinInt }},
		{"a parent is behind the last bag", func(p *impl.Plan) { p.Parent[2] = 3 }},
		{"a parent is the greatest int", func(p *impl.Plan) { p.Parent[2] = math.MaxInt }},
		{"a bag is its own parent", func(p *impl.Plan) { p.Parent[2] = 2 }},
		{"a parent stands before", func(p *impl.Plan) { p.Parent[2] = 1 }},
		{"the second bag apart", func(p *impl.Plan) { p.Parent[1] = -1 }},
		{"the first bag apart", func(p *impl.Plan) { p.Parent[0] = -1 }},
		{"the first bag at the wrong one", func(p *impl.Plan) { p.Parent[0] = 2 }},
		{"a home is missing", func(p *impl.Plan) { p.Home = p.Home[:1] }},
		{"a home too many", func(p *impl.Plan) { p.Home = append(p.Home, -1) }},
		{"no homes", func(p *impl.Plan) { p.Home = nil }},
		{"no home for an edge", func(p *impl.Plan) { p.Home[1] = -1 }},
		{"a home that lacks the first variable", func(p *impl.Plan) { p.Home[0] = 1 }},
		{"a home that lacks the last variable", func(p *impl.Plan) { p.Home[1] = 0 }},
		{"a home with one variable of two", func(p *impl.Plan) { p.Home[1] = 2 }},
		{"a home behind the last bag", func(p *impl.Plan) { p.Home[1] = 3 }},
		{"a home below -1", func(p *impl.Plan) { p.Home[1] = -2 }},
		{"a home of the greatest int", func(p *impl.Plan) { p.Home[1] = math.MaxInt }},
		{"a home of the least int", func(p *impl.Plan) { p.Home[1] = math.MinInt }},
		{"a width is missing", func(p *impl.Plan) { p.Widths = p.Widths[:2] }},
		{"a width too many", func(p *impl.Plan) { p.Widths = append(p.Widths, one) }},
		{"no widths", func(p *impl.Plan) { p.Widths = nil }},
		{"a width is less", func(p *impl.Plan) { p.Widths[0] = rat(1, 2) }},
		{"the last width is 0", func(p *impl.Plan) { p.Widths[2] = rat(0, 1) }},
		{"a width is greater", func(p *impl.Plan) { p.Widths[1] = rat(2, 1) }},
		{"a width is greater, the greatest with it", func(p *impl.Plan) { p.Widths[1], p.Width = rat(2, 1), rat(2, 1) }},
		{"a width isn't reduced", func(p *impl.Plan) { p.Widths[1] = rat(2, 2) }},
		{"a width has both signs turned", func(p *impl.Plan) { p.Widths[1] = rat(-1, -1) }},
		{"a width is no number", func(p *impl.Plan) { p.Widths[1] = impl.Rat{} }},
		{"a width has the least ints", func(p *impl.Plan) { p.Widths[1] = rat(math.MinInt, math.MinInt) }},
		{"the greatest width is less", func(p *impl.Plan) { p.Width = rat(1, 2) }},
		{"the greatest width is 0", func(p *impl.Plan) { p.Width = rat(0, 1) }},
		{"the greatest width is greater", func(p *impl.Plan) { p.Width = rat(3, 2) }},
		{"the greatest width isn't reduced", func(p *impl.Plan) { p.Width = rat(2, 2) }},
		{"the greatest width is no number", func(p *impl.Plan) { p.Width = impl.Rat{} }},
		{"the greatest width has the greatest ints", func(p *impl.Plan) { p.Width = rat(math.MaxInt, math.MaxInt) }},
	}
	for _, c := range cases {
		p := pathPlan()
		c.spoiled(&p)
		if askPlanOK(t, 3, pathEdges(), p) {
			t.Errorf("%s: %v", c.name, p)
		}
	}
}

// Here nothing but the named thing is wrong: widths are right, or stand as CoverOf answers.
func TestPlanOKWithOneThingAlone(t *testing.T) {
	single, two := [][]int{{0}}, [][]int{{0}, {1}}
	withEmpty := [][]int{{0}, {}}
	thirteen, thirteenParents := chain(13, 0)
	manyBags, manyParents := chain(100000, 0)
	triangle := [][]int{{0, 1}, {1, 2}, {0, 2}}
	cases := []struct {
		name  string
		k     int
		edges [][]int
		plan  impl.Plan
	}{
		{"one bag more than MaxBags", 1, single, plain(single, thirteen, thirteenParents, []int{0})},
		{"very many bags", 1, single, impl.Plan{Bags: manyBags, Parent: manyParents, Home: []int{0}, Widths: slices.Repeat([]impl.Rat{rat(1, 1)}, 100000), Width: rat(1, 1)}},
		{"an empty bag", 1, single, plain(single, [][]int{{0}, {}}, []int{-1, -1}, []int{0})},
		{"an empty bag below", 1, single, plain(single, [][]int{{}, {0}}, []int{1, -1}, []int{1})},
		{"an empty bag and no variables", 0, nil, plain(nil, [][]int{{}}, []int{-1}, nil)},
		{"a bag and no variables", 0, [][]int{{}}, plain([][]int{{}}, [][]int{{0}}, []int{-1}, []int{-1})},
		{"a bag beside that has the variable k", 1, single, plain(single, [][]int{{0}, {1}}, []int{-1, -1}, []int{0})},
		{"a bag beside that descends", 2, [][]int{{0, 1}}, plain([][]int{{0, 1}}, [][]int{{1, 0}, {0, 1}}, []int{1, -1}, []int{1})},
		{"a bag beside that has a variable twice", 1, single, plain(single, [][]int{{0, 0}, {0}}, []int{1, -1}, []int{1})},
		{"a bag beside that goes below 0", 1, single, plain(single, [][]int{{-1, 0}, {0}}, []int{1, -1}, []int{1})},
		{"a bag that is its own parent, beside the top", 1, single, plain(single, [][]int{{0}, {0}}, []int{0, -1}, []int{0})},
		{"a parent that stands before", 1, single, plain(single, [][]int{{0}, {0}}, []int{-1, 0}, []int{0})},
		{"a parent behind the last bag", 1, single, plain(single, [][]int{{0}}, []int{1}, []int{0})},
		{"a parent below -1", 1, single, plain(single, [][]int{{0}}, []int{-2}, []int{0})},
		{"bags that are alike and apart", 1, single, plain(single, [][]int{{0}, {0}}, []int{-1, -1}, []int{0})},
		{"bags of one variable, another between", 2, two, plain(two, [][]int{{0}, {1}, {0}}, []int{1, 2, -1}, []int{0, 1})},
		{"two bags below one that lacks the variable", 2, two, plain(two, [][]int{{0}, {0}, {1}}, []int{2, 2, -1}, []int{0, 2})},
		{"one variable of two doesn't hang together", 2, two, plain(two, [][]int{{0, 1}, {0}, {0, 1}}, []int{1, 2, -1}, []int{0, 0})},
		{"a variable in no bag", 2, two, plain(two, [][]int{{0}}, []int{-1}, []int{0, 0})},
		{"an empty edge with a home", 1, withEmpty, plain(withEmpty, [][]int{{0}}, []int{-1}, []int{0, 0})},
		{"an empty edge with a home below -1", 1, withEmpty, plain(withEmpty, [][]int{{0}}, []int{-1}, []int{0, -2})},
		{"an empty edge with a home behind the bags", 0, [][]int{{}}, impl.Plan{Home: []int{0}, Width: rat(0, 1)}},
		{"an empty edge without an entry", 0, [][]int{{}}, impl.Plan{Width: rat(0, 1)}},
		{"an entry without an edge", 0, nil, impl.Plan{Home: []int{-1}, Width: rat(0, 1)}},
		{"a parent without a bag", 0, nil, impl.Plan{Parent: []int{-1}, Width: rat(0, 1)}},
		{"a width without a bag", 0, nil, impl.Plan{Widths: []impl.Rat{rat(0, 1)}, Width: rat(0, 1)}},
		{"no number and no bags", 0, nil, impl.Plan{}},
		{"0 that isn't reduced and no bags", 0, nil, impl.Plan{Width: rat(0, 2)}},
		{"a width of 1 and no bags", 0, nil, impl.Plan{Width: rat(1, 1)}},
		{"no bag has the triangle's last edge", 3, triangle, plain(triangle, [][]int{{0, 1}, {1, 2}}, []int{1, -1}, []int{0, 1, 1})},
		{"the last width and not the greatest", 3, triangle, impl.Plan{Bags: [][]int{{0, 1, 2}, {2}}, Parent: []int{1, -1}, Home: []int{0, 0, 0}, Widths: []impl.Rat{rat(3, 2), rat(1, 1)}, Width: rat(1, 1)}},
		{"the sum of the widths", 3, triangle, impl.Plan{Bags: [][]int{{0, 1, 2}, {2}}, Parent: []int{1, -1}, Home: []int{0, 0, 0}, Widths: []impl.Rat{rat(3, 2), rat(1, 1)}, Width: rat(5, 2)}},
		{"whole weights instead of fractions", 3, triangle, impl.Plan{Bags: [][]int{{0, 1, 2}}, Parent: []int{-1}, Home: []int{0, 0, 0}, Widths: []impl.Rat{rat(2, 1)}, Width: rat(2, 1)}},
		{"fractions that aren't reduced", 3, triangle, impl.Plan{Bags: [][]int{{0, 1, 2}}, Parent: []int{-1}, Home: []int{0, 0, 0}, Widths: []impl.Rat{rat(6, 4)}, Width: rat(6, 4)}},
	}
	for _, c := range cases {
		if askPlanOK(t, c.k, c.edges, c.plan) {
			t.Errorf("%s: %v", c.name, c.plan)
		}
	}
}

// counters goes through all lists of the given length with entries from least up to most.
func counters(length, least, most int, call func(list []int)) {
	list := slices.Repeat([]int{least}, length)
	for {
		call(slices.Clone(list))
		i := 0
		for i < length && list[i] == most {
			list[i] = least
			i++
		}
		if i == length {
			return
		}
		list[i]++
	}
}

// firstHomes has for each edge the first bag that will do, -1 if there's none.
func firstHomes(edges, bags [][]int) []int {
	var homes []int
	for _, edge := range edges {
		homes = append(homes, slices.IndexFunc(bags, func(bag []int) bool {
			return len(edge) > 0 && inSomeEdge(edge, [][]int{bag})
		}))
	}
	return homes
}

func bagsOf(bits []int) [][]int {
	var bags [][]int
	for _, b := range bits {
		bags = append(bags, setOf(b))
	}
	return bags
}

// All lists of at most three bags, empty ones too, with all parents and all
// homes of the first edge, against the oracle.
func TestPlanOKOfAllSmallPlans(t *testing.T) {
	patterns := [][][]int{pathEdges(), {{0, 2}, {1}}, {{0, 1, 2}, {}}, {{}, {0, 1}, {2}, {2}}}
	answers := [2]int{}
	for _, edges := range patterns {
		widths := widthsFor(edges)
		check := func(p impl.Plan) {
			want := oraclePlanOK(3, edges, p, widths)
			if impl.PlanOK(3, edges, p) != want {
				t.Fatalf("PlanOK(3, %v, %v) isn't %v", edges, p, want)
			}
			if want {
				answers[1]++
			} else {
				answers[0]++
			}
		}
		for count := range 4 {
			counters(count, 0, 7, func(bits []int) {
				p := withWidthsBy(impl.Plan{Bags: bagsOf(bits)}, widths.of)
				p.Home = firstHomes(edges, p.Bags)
				counters(count, -1, count-1, func(parent []int) {
					p.Parent = parent
					for p.Home[0] = -1; p.Home[0] <= count; p.Home[0]++ {
						check(p)
					}
				})
			})
		}
	}
	if answers[0] < 500 || answers[1] < 500 {
		t.Errorf("%d bad and %d good plans", answers[0], answers[1])
	}
}

// drawnTree is a valid decomposition that comes from no order: bags are grown and doubled.
func drawnTree(draw *rand.Rand, k int, edges [][]int) impl.Plan {
	order := draw.Perm(k)
	p := oraclePlan(edges, order, widthsFor(edges))
	for len(p.Bags) > 0 && len(p.Bags) < impl.MaxBags && draw.Intn(3) > 0 {
		// A new last bag with some variables of the top of a tree may follow that top.
		i := slices.Index(p.Parent, -1)
		bag := slices.DeleteFunc(slices.Clone(p.Bags[i]), func(int) bool { return len(p.Bags[i]) > 1 && draw.Intn(2) == 0 })
		if len(bag) == 0 {
			bag = slices.Clone(p.Bags[i])
		}
		p.Parent[i] = len(p.Bags)
		p.Bags, p.Parent = append(p.Bags, bag), append(p.Parent, -1)
	}
	for i := range p.Bags {
		// Where a parent takes in a bag that hangs on it, both stay right.
		if parent := p.Parent[i]; parent >= 0 && draw.Intn(4) == 0 {
			both := slices.Concat(p.Bags[parent], p.Bags[i])
			slices.Sort(both)
			p.Bags[parent] = slices.Compact(both)
		}
	}
	for i, edge := range edges {
		for len(edge) > 0 {
			p.Home[i] = draw.Intn(len(p.Bags))
			if inSomeEdge(edge, p.Bags[p.Home[i]:p.Home[i]+1]) {
				break
			}
		}
	}
	return withWidths(edges, p)
}

// spoilOnePlace changes one number, list or Rat of a plan.
func spoilOnePlace(draw *rand.Rand, p *impl.Plan) {
	change := func(n int) int {
		return []int{n + 1, n - 1, -1, -2, 0, draw.Intn(13), math.MaxInt, math.MinInt}[draw.Intn(8)]
	}
	lists := append([][]int{p.Parent, p.Home}, p.Bags...)
	list := lists[draw.Intn(len(lists))]
	switch kind := draw.Intn(8); {
	case kind < 4 && len(list) > 0:
		i := draw.Intn(len(list))
		list[i] = change(list[i])
	case kind == 4 && len(p.Widths) > 0:
		i := draw.Intn(len(p.Widths))
		p.Widths[i].Num = change(p.Widths[i].Num)
	case kind == 5:
		p.Width.Num = change(p.Width.Num)
	case kind == 6 && len(p.Bags) > 0:
		i := draw.Intn(len(p.Bags))
		p.Bags[i] = setOf(draw.Intn(64))
	default:
		p.Width.Den = change(p.Width.Den)
	}
}

func TestPlanOKOfDrawnPlans(t *testing.T) {
	draw := rand.New(rand.NewSource(41))
	still := 0
	for range 3000 {
		k := draw.Intn(7)
		edges := drawnPattern(draw, k, k+draw.Intn(8-k))
		widths := widthsFor(edges)
		p := drawnTree(draw, k, edges)
		if !askPlanOK(t, k, edges, p) || !oraclePlanOK(k, edges, p, widths) {
			t.Fatalf("PlanOK(%d, %v, %v) doesn't hold", k, edges, p)
		}
		spoilOnePlace(draw, &p)
		want := oraclePlanOK(k, edges, p, widths)
		if got := askPlanOK(t, k, edges, p); got != want {
			t.Fatalf("PlanOK(%d, %v, %v) isn't %v", k, edges, p, want)
		}
		if want {
			still++
		}
	}
	if still == 0 {
		t.Error("no change left a plan right")
	}
}

func TestPlanOKLeavesItsArguments(t *testing.T) {
	edges, p := guarded(pathEdges()), pathPlan()
	p.Bags, p.Parent, p.Home = guarded(p.Bags), guardedList(p.Parent), guardedList(p.Home)
	if !askPlanOK(t, 3, edges, p) {
		t.Error("should be OK")
	}
	if !guardsHold(edges) || !guardsHold(p.Bags) || !guardHolds(p.Parent) || !guardHolds(p.Home) {
		t.Error("an argument was written into, behind its end")
	}
}
