package tests

import (
	"math"
	"math/big"
	"math/rand"
	"slices"
	"testing"

	"loop.example/s01205/impl"
)

func sameCover(a, b impl.Cover) bool {
	return a.OK == b.OK && a.Width == b.Width && slices.Equal(a.Weights, b.Weights) && slices.Equal(a.Dual, b.Dual)
}

func noCover(c impl.Cover) bool {
	return !c.OK && c.Width == (impl.Rat{}) && len(c.Weights) == 0 && len(c.Dual) == 0
}

func cloneLists(lists [][]int) [][]int {
	var out [][]int
	for _, l := range lists {
		out = append(out, slices.Clone(l))
	}
	return out
}

func bigSum(rats []impl.Rat, count func(i int) bool) *big.Rat {
	sum := new(big.Rat)
	for i, r := range rats {
		if count(i) {
			sum.Add(sum, bigOf(r))
		}
	}
	return sum
}

// checkCertificate holds a cover against the words of 1.2 alone, without the oracle.
func checkCertificate(t *testing.T, bag []int, edges [][]int, c impl.Cover) {
	t.Helper()
	if !c.OK || !okRat(c.Width) || len(c.Weights) != len(edges) || len(c.Dual) != len(bag) {
		t.Fatalf("bag %v edges %v: %v", bag, edges, c)
	}
	for _, r := range slices.Concat(c.Weights, c.Dual) {
		if !okRat(r) || r.Num < 0 {
			t.Fatalf("bag %v edges %v: %v in %v", bag, edges, r, c)
		}
	}
	one := big.NewRat(1, 1)
	all := func(int) bool { return true }
	for _, v := range bag {
		if bigSum(c.Weights, func(i int) bool { return slices.Contains(edges[i], v) }).Cmp(one) < 0 {
			t.Fatalf("bag %v edges %v: %v isn't covered by %v", bag, edges, v, c.Weights)
		}
	}
	for _, edge := range edges {
		if bigSum(c.Dual, func(i int) bool { return slices.Contains(edge, bag[i]) }).Cmp(one) > 0 {
			t.Fatalf("bag %v edges %v: %v is overfull by %v", bag, edges, edge, c.Dual)
		}
	}
	if bigSum(c.Weights, all).Cmp(bigOf(c.Width)) != 0 || bigSum(c.Dual, all).Cmp(bigOf(c.Width)) != 0 {
		t.Fatalf("bag %v edges %v: sums of %v", bag, edges, c)
	}
}

func checkAgainstOracle(t *testing.T, bag []int, edges [][]int) {
	t.Helper()
	bagBefore, edgesBefore := slices.Clone(bag), cloneLists(edges)
	got := impl.CoverOf(bag, edges)
	if !slices.Equal(bag, bagBefore) || !slices.EqualFunc(edges, edgesBefore, slices.Equal) {
		t.Fatalf("CoverOf(%v, %v) wrote into its arguments", bagBefore, edgesBefore)
	}
	checkCertificate(t, bag, edges, got)
	if want := oracleCover(bag, edges); !sameCover(got, want) {
		t.Fatalf("CoverOf(%v, %v) = %v, want %v", bag, edges, got, want)
	}
}

func inSomeEdge(bag []int, edges [][]int) bool {
	for _, v := range bag {
		if !slices.ContainsFunc(edges, func(edge []int) bool { return slices.Contains(edge, v) }) {
			return false
		}
	}
	return true
}

func setOf(bits int) []int {
	set := []int{}
	for v := range impl.MaxVars {
		if bits>>v&1 == 1 {
			set = append(set, v)
		}
	}
	return set
}

func TestCoverPinned(t *testing.T) {
	zero, one, half, third := rat(0, 1), rat(1, 1), rat(1, 2), rat(1, 3)
	cases := []struct {
		name          string
		bag           []int
		edges         [][]int
		width         impl.Rat
		weights, dual []impl.Rat
	}{
		{"the first example", []int{0, 1, 2}, [][]int{{0, 1}, {1, 2}, {0, 2}}, rat(3, 2), []impl.Rat{half, half, half}, []impl.Rat{half, half, half}},
		{"the second example", []int{0, 1}, [][]int{{0, 1}, {1}, {0}}, one, []impl.Rat{one, zero, zero}, []impl.Rat{zero, one}},
		{"alike edges", []int{0, 1}, [][]int{{0, 1}, {0, 1}, {0, 1}}, one, []impl.Rat{zero, zero, one}, []impl.Rat{zero, one}},
		{"four cycle", []int{0, 1, 2, 3}, [][]int{{0, 1}, {1, 2}, {2, 3}, {0, 3}}, rat(2, 1), []impl.Rat{zero, one, zero, one}, []impl.Rat{zero, one, zero, one}},
		{"five cycle", []int{0, 1, 2, 3, 4}, [][]int{{0, 1}, {1, 2}, {2, 3}, {3, 4}, {0, 4}}, rat(5, 2), []impl.Rat{half, half, half, half, half}, []impl.Rat{half, half, half, half, half}},
		{"threes of four", []int{0, 1, 2, 3}, [][]int{{0, 1, 2}, {0, 1, 3}, {0, 2, 3}, {1, 2, 3}}, rat(4, 3), []impl.Rat{third, third, third, third}, []impl.Rat{third, third, third, third}},
		{"one apart", []int{0, 1, 2, 3}, [][]int{{0, 1}, {1, 2}, {0, 2}, {3}}, rat(5, 2), []impl.Rat{half, half, half, one}, []impl.Rat{half, half, half, one}},
		{"empty bag", []int{}, [][]int{{0, 1}, {}, {5}}, zero, []impl.Rat{zero, zero, zero}, nil},
		{"nil bag", nil, [][]int{{3}}, zero, []impl.Rat{zero}, nil},
		{"nothing at all", nil, nil, zero, nil, nil},
		{"no edges", []int{}, [][]int{}, zero, nil, nil},
		{"seven empty edges", nil, [][]int{{}, {}, {}, {}, {}, {}, nil}, zero, []impl.Rat{zero, zero, zero, zero, zero, zero, zero}, nil},
		{"empty edges between", []int{1}, [][]int{{}, {1}, nil, {0, 1, 2}, {}}, one, []impl.Rat{zero, zero, zero, one, zero}, []impl.Rat{one}},
		{"edges beside the bag", []int{2, 4}, [][]int{{0, 1}, {2, 3}, {3, 5}, {1, 4}, {0}}, rat(2, 1), []impl.Rat{zero, one, zero, one, zero}, []impl.Rat{one, one}},
		{"all variables, one edge each", []int{0, 1, 2, 3, 4, 5}, [][]int{{5}, {4}, {3}, {2}, {1}, {0}, {}}, rat(6, 1), []impl.Rat{one, one, one, one, one, one, zero}, []impl.Rat{one, one, one, one, one, one}},
		{"one edge has them all", []int{0, 1, 2, 3, 4, 5}, [][]int{{0, 1, 2, 3, 4, 5}}, one, []impl.Rat{one}, []impl.Rat{zero, zero, zero, zero, zero, one}},
		{"path", []int{0, 1, 2}, [][]int{{0, 1}, {1, 2}}, rat(2, 1), []impl.Rat{one, one}, []impl.Rat{one, zero, one}},
		{"the last variable", []int{5}, [][]int{{5}, {4, 5}}, one, []impl.Rat{zero, one}, []impl.Rat{one}},
	}
	for _, c := range cases {
		want := impl.Cover{OK: true, Width: c.width, Weights: c.weights, Dual: c.dual}
		if got := impl.CoverOf(c.bag, c.edges); !sameCover(got, want) {
			t.Errorf("%s: %v, want %v", c.name, got, want)
		}
	}
}

// All lists of at most four sets of three variables, in each order, for each bag of them.
func TestCoverOfAllSmallEdges(t *testing.T) {
	var lists func(edges [][]int)
	lists = func(edges [][]int) {
		for bits := range 8 {
			if bag := setOf(bits); inSomeEdge(bag, edges) {
				checkAgainstOracle(t, bag, edges)
			} else if got := impl.CoverOf(bag, edges); !noCover(got) {
				t.Fatalf("CoverOf(%v, %v) = %v", bag, edges, got)
			}
		}
		if len(edges) == 4 {
			return
		}
		for bits := range 8 {
			lists(append(slices.Clone(edges), setOf(bits)))
		}
	}
	lists(nil)
}

func drawnEdges(draw *rand.Rand, count int) [][]int {
	var edges [][]int
	for range count {
		if len(edges) > 0 && draw.Intn(6) == 0 {
			edges = append(edges, slices.Clone(edges[draw.Intn(len(edges))]))
			continue
		}
		edges = append(edges, setOf(draw.Intn(64)&draw.Intn(64)|1<<draw.Intn(7)&63))
	}
	return edges
}

func TestCoverOfDrawnEdges(t *testing.T) {
	draw := rand.New(rand.NewSource(1))
	checked := 0
	for checked < 400 {
		edges := drawnEdges(draw, 3+draw.Intn(5))
		bag := setOf(draw.Intn(64) | draw.Intn(64))
		if inSomeEdge(bag, edges) {
			checkAgainstOracle(t, bag, edges)
			checked++
		}
	}
}

// Edges of three and four of six variables have optimal covers with greater denominators.
func TestCoverOfDenseEdges(t *testing.T) {
	draw := rand.New(rand.NewSource(2))
	all := setOf(63)
	greatest := 0
	for checked := 0; checked < 150; {
		var edges [][]int
		for range 7 {
			edge := draw.Perm(6)[:3+draw.Intn(2)]
			slices.Sort(edge)
			edges = append(edges, edge)
		}
		if !inSomeEdge(all, edges) {
			continue
		}
		checked++
		checkAgainstOracle(t, all, edges)
		greatest = max(greatest, impl.CoverOf(all, edges).Width.Den)
	}
	if greatest < 5 {
		t.Errorf("the greatest denominator drawn is %d", greatest)
	}
}

// Far more arguments than the oracle can be asked about: the certificate still says whether they are best.
func TestCoverCertificates(t *testing.T) {
	draw := rand.New(rand.NewSource(3))
	for range 5000 {
		edges := drawnEdges(draw, draw.Intn(8))
		bag := setOf(draw.Intn(64))
		if inSomeEdge(bag, edges) {
			checkCertificate(t, bag, edges, impl.CoverOf(bag, edges))
		} else if got := impl.CoverOf(bag, edges); !noCover(got) {
			t.Fatalf("CoverOf(%v, %v) = %v", bag, edges, got)
		}
	}
}

func manyEdges(count int, edge ...int) [][]int {
	edges := make([][]int, count)
	for i := range edges {
		edges[i] = edge
	}
	return edges
}

func TestCoverOfWrongArguments(t *testing.T) {
	full := [][]int{{0, 1, 2, 3, 4, 5}}
	cases := []struct {
		name  string
		bag   []int
		edges [][]int
	}{
		{"bag descends", []int{1, 0}, full},
		{"bag twice the same", []int{2, 2}, full},
		{"bag descends at its end", []int{0, 2, 1}, full},
		{"bag below 0", []int{-1}, full},
		{"bag below 0 first", []int{-1, 0}, full},
		{"bag at MaxVars", []int{6}, [][]int{{0, 1, 2, 3, 4, 5}, {6}}},
		{"bag beyond MaxVars", []int{0, 1, 2, 3, 4, 5, 6}, full},
		{"bag with the least int", []int{math.MinInt}, full},
		{"bag with the greatest int", []int{0, math.MaxInt}, full},
		{"bag too long", slices.Repeat([]int{0}, 100000), full},
		{"edge descends", []int{0}, [][]int{{1, 0}}},
		{"edge twice the same", []int{0}, [][]int{{0, 0}}},
		{"last edge descends", []int{0}, [][]int{{0}, {0}, {2, 1}}},
		{"edge below 0", []int{0}, [][]int{{0}, {-1}}},
		{"edge at MaxVars", []int{0}, [][]int{{0}, {6}}},
		{"edge with the least int", []int{0}, [][]int{{math.MinInt, 0}}},
		{"edge with the greatest int", []int{0}, [][]int{{0, math.MaxInt}}},
		{"edge too long", []int{0}, [][]int{slices.Repeat([]int{0}, 100000)}},
		{"wrong edge and empty bag", nil, [][]int{{1, 0}}},
		{"wrong bag and no edges", []int{-1}, nil},
		{"one edge too many", []int{0}, manyEdges(8, 0)},
		{"one empty edge too many", nil, manyEdges(8)},
		{"many edges", []int{0}, manyEdges(100000, 0)},
		{"variable in no edge", []int{0, 1}, [][]int{{0}, {2}}},
		{"variable and no edges", []int{0}, nil},
		{"variable and empty edges", []int{5}, [][]int{{}, {}}},
		{"last variable in no edge", []int{0, 1, 2, 3, 4, 5}, [][]int{{0, 1, 2}, {3, 4}}},
		{"first variable in no edge", []int{0, 1, 2}, [][]int{{1, 2}}},
	}
	for _, c := range cases {
		bag, edges := slices.Clone(c.bag), cloneLists(c.edges)
		if got := impl.CoverOf(c.bag, c.edges); !noCover(got) {
			t.Errorf("%s: %v", c.name, got)
		}
		if !slices.Equal(bag, c.bag) || !slices.EqualFunc(edges, c.edges, slices.Equal) {
			t.Errorf("%s: an argument was written into", c.name)
		}
	}
	if got := impl.CoverOf([]int{0}, manyEdges(7, 0)); !got.OK {
		t.Errorf("MaxAtoms edges: %v", got)
	}
}

func TestCoverIsNewMemory(t *testing.T) {
	bag, edges := []int{0, 1, 2}, [][]int{{0, 1}, {1, 2}, {0, 2}}
	first := impl.CoverOf(bag, edges)
	second := impl.CoverOf(bag, edges)
	weights := first.Weights[:cap(first.Weights)]
	for i := range weights {
		weights[i] = rat(7, 7)
	}
	half := []impl.Rat{rat(1, 2), rat(1, 2), rat(1, 2)}
	if !slices.Equal(first.Dual, half) {
		t.Error("Weights and Dual share memory")
	}
	dual := first.Dual[:cap(first.Dual)]
	for i := range dual {
		dual[i] = rat(8, 8)
	}
	third := impl.CoverOf(bag, edges)
	for _, c := range []impl.Cover{second, third} {
		if !slices.Equal(c.Weights, half) || !slices.Equal(c.Dual, half) {
			t.Error("two answers share memory")
		}
	}
}
