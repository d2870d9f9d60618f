package tests

import (
	"math/rand"
	"strings"
	"testing"

	"loop.example/s01205/impl"
)

// planText has relations of each arity; what rows they have makes no difference to a plan.
const planText = "rel e 2\ne 1 2 5\nrel v 1\nrel t 3\nt 1 2 3 -4"

func TestExplainPinned(t *testing.T) {
	checkExplain(t, planText, "q(x, y, z) :- e(x, y), e(y, z), e(x, z).",
		"order x y z", "bag 0 : x y z : 1 : 3/2 : 0 2", "bag 1 : y z : 2 : 1 : 1", "bag 2 : z : -1 : 1 :", "width 3/2")
	checkExplain(t, planText, "q() :- e(x, y), e(y, z).",
		"order x y z", "bag 0 : x y : 1 : 1 : 0", "bag 1 : y z : 2 : 1 : 1", "bag 2 : z : -1 : 1 :", "width 1")
	checkExplain(t, planText, "q(; sum) :- e(1, 2).", "order", "width 0")
	checkExplain(t, planText, "q() :- e(1, 2), v(9), t(0, 0, 0).", "order", "width 0")
	checkExplain(t, planText, "q() :- v(x).", "order x", "bag 0 : x : -1 : 1 : 0", "width 1")
	checkExplain(t, planText, "q() :- v(x), e(3, 4), e(x, x), v(x), t(x, 2, x).", "order x", "bag 0 : x : -1 : 1 : 0 2 3 4", "width 1")
	// Parts that hang together with no other: each has a root of its own.
	checkExplain(t, planText, "q() :- v(b), v(a).", "order b a", "bag 0 : b : -1 : 1 : 0", "bag 1 : a : -1 : 1 : 1", "width 1")
	checkExplain(t, planText, "q(y) :- e(x, y), v(3), e(z, u).",
		"order x y z u", "bag 0 : x y : 1 : 1 : 0", "bag 1 : y : -1 : 1 :", "bag 2 : z u : 3 : 1 : 2", "bag 3 : u : -1 : 1 :", "width 1")
	// The order isn't that of the variables, and names in a bag stand in that of the bag.
	checkExplain(t, planText, "q() :- e(m, a), e(m, b).",
		"order a m b", "bag 0 : m a : 1 : 1 : 0", "bag 1 : m b : 2 : 1 : 1", "bag 2 : b : -1 : 1 :", "width 1")
	checkExplain(t, planText, "q() :- e(m, a), e(m, b), e(m, c).",
		"order a b m c", "bag 0 : m a : 2 : 1 : 0", "bag 1 : m b : 2 : 1 : 1", "bag 2 : m c : 3 : 1 : 2", "bag 3 : c : -1 : 1 :", "width 1")
	// A whole width above 1.
	checkExplain(t, planText, "q() :- e(x, y), e(y, z), e(z, w), e(w, x).",
		"order x y z w", "bag 0 : x y w : 1 : 2 : 0 3", "bag 1 : y z w : 2 : 2 : 1", "bag 2 : z w : 3 : 1 : 2", "bag 3 : w : -1 : 1 :", "width 2")
	checkExplain(t, planText, "q() :- t(a, b, c), t(a, b, d), t(a, c, d), t(b, c, d).",
		"order a b c d", "bag 0 : a b c d : 1 : 4/3 : 0 1 2", "bag 1 : b c d : 2 : 1 : 3", "bag 2 : c d : 3 : 1 :", "bag 3 : d : -1 : 1 :", "width 4/3")
	// Long names, and names that are words elsewhere.
	long := strings.Repeat("n", impl.MaxName)
	checkExplain(t, planText, "q() :- e(order, bag), e(bag, "+long+").",
		"order order bag "+long, "bag 0 : order bag : 1 : 1 : 0", "bag 1 : bag "+long+" : 2 : 1 : 1", "bag 2 : "+long+" : -1 : 1 :", "width 1")
}

// Neither the head nor the ring nor the rows make another plan.
func TestExplainHangsOnTheAtomsAlone(t *testing.T) {
	body := ") :- e(x, y), t(y, z, 4), v(z), e(z, x)."
	want := impl.Explain(planText, "q("+body)
	for _, head := range []string{"x", "z, y", "x, y, z; min", ";sum", "y; count"} {
		for _, data := range []string{planText, planText + "\nt 1 2 4 0", "rel v 1\nrel e 2\nrel t 3\n"} {
			if got := impl.Explain(data, "q("+head+body); got != want {
				t.Errorf("%q, %q: %q, want %q", data, head, got, want)
			}
		}
	}
}

func TestExplainFaults(t *testing.T) {
	good := "q(x) :- e(x, y)."
	cases := []struct{ data, query, want string }{
		// The data comes first, whatever is wrong with the query.
		{"rel e 9", good, "data 1"},
		{"rel e 2\n\n# e\ne 1 2", good, "data 4"},
		{"rel e 2\ne 1 2 3\n", "q(", "query 3 2"},
		{"bad\nworse", "q(", "data 1"},
		{"rel e 2\nbad\n", "#", "data 2"},
		{"rel e 2\nbad\n", "q(z) :- f(x).", "data 2"},
		{"rel e 2\nbad\n", "", "data 2"},
		{"rel e 2\nbad\n", strings.Repeat("q", impl.MaxQuery+1), "data 2"},
		{filled("bad\n", "\n", impl.MaxData+1), strings.Repeat("q", impl.MaxQuery+1), "data -1"},
		{filled("", "\n", impl.MaxData+1), good, "data -1"},
		// Then the query's text, whatever the data lacks.
		{planText, "", "query 3 0"},
		{planText, "\n", "query 3 1"},
		{planText, "q(x) - e(x).", "query 2 5"},
		{planText, "q(x) :- e(x) #", "query 2 13"},
		{planText, "q(x) :- e(x, y)", "query 3 15"},
		{planText, "q(x; max) :- e(x, y).", "query 3 5"},
		{planText, "q(z) :- f(x), ", "query 3 14"},
		{planText, filled(good, " ", impl.MaxQuery+1), "query 1 0"},
		{"", strings.Repeat("#", impl.MaxQuery+1), "query 1 0"},
		{"", "q(x", "query 3 3"},
		// Then what the query asks of the data.
		{"", good, "check 4 0"},
		{planText, "q(x) :- e(x, y), v(x), f(x).", "check 4 2"},
		{planText, "q(x) :- e(x).", "check 5 0"},
		{planText, "q(x) :- v(x), e(x, y), v(x, y).", "check 5 2"},
		{planText, "q(z) :- v(x), v(x), v(x), v(x), v(x), v(x), v(x), f(x).", "check 3 0"},
		{planText, "q(z) :- t(a, b, c), t(d, e, f), v(g).", "check 6 0"},
		{planText, "q(z) :- e(x, y).", "check 7 0"},
		{planText, "q(x, y, x) :- e(x, y).", "check 7 2"},
	}
	for _, c := range cases {
		checkExplain(t, c.data, c.query, c.want)
		for _, limit := range []int{-1, 0, 7, impl.MaxLimit, impl.MaxLimit + 1} {
			checkRunText(t, c.data, c.query, limit, c.want)
		}
	}
}

// Texts as long as they may be are read.
func TestTextsOfAllLengths(t *testing.T) {
	good := "q(x) :- v(x)."
	plan := []string{"order x", "bag 0 : x : -1 : 1 : 0", "width 1"}
	data := planText + "\nv 7 1\n"
	for _, length := range []int{len(data), len(data) + 1, impl.MaxData - 1, impl.MaxData} {
		checkExplain(t, filled(data, "\n", length), good, plan...)
		checkExplain(t, filled(data, "#", length), good, plan...)
		checkRunText(t, filled(data, "\n", length), good, 5, "7", "width 1 visits 1")
	}
	for _, length := range []int{len(good), len(good) + 1, impl.MaxQuery - 1, impl.MaxQuery} {
		checkExplain(t, data, filled(good, " ", length), plan...)
		checkExplain(t, data, filled("", "\n", length-len(good))+good, plan...)
		checkRunText(t, data, filled(good, "\t", length), 5, "7", "width 1 visits 1")
	}
	both := []string{filled(data, "\n", impl.MaxData), filled(good, "\r", impl.MaxQuery)}
	checkExplain(t, both[0], both[1], plan...)
	checkExplain(t, both[0]+"\n", both[1], "data -1")
	checkExplain(t, both[0], both[1]+" ", "query 1 0")
	checkExplain(t, both[0]+"\n", both[1]+" ", "data -1")
	checkRunText(t, both[0], both[1], 5, "7", "width 1 visits 1")
	checkRunText(t, both[0]+"\n", both[1], 5, "data -1")
	checkRunText(t, both[0], both[1]+" ", 5, "query 1 0")
	checkRunText(t, strings.Repeat("rel ", impl.MaxData), strings.Repeat("q(", impl.MaxQuery), -5, "data -1")
}

func TestExplainAgainstOracle(t *testing.T) {
	draw := rand.New(rand.NewSource(77))
	data := "rel a 1\nrel e 2\nrel t 3\n"
	plans := 0
	for i := range 4000 {
		names := "vwxyz"
		if i%40 == 0 {
			names = "uvwxyz"
		}
		query := impl.PrintQuery(drawnFor(draw, names, 7))
		want := oracleExplain(data, query)
		if got := impl.Explain(data, query); got != want {
			t.Fatalf("%s: %q, want %q", query, got, want)
		}
		plans += strings.Count(want, "bag")
	}
	if plans < 8000 {
		t.Errorf("only %d bags", plans)
	}
}
