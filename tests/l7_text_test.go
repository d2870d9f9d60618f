package tests

import (
	"fmt"
	"math"
	"math/rand"
	"slices"
	"strings"
	"testing"

	"loop.example/s01205/impl"
)

// exampleText is the data of 7.3.
const exampleText = "rel e 2\ne 1 2 5\ne 2 3 7\ne 1 3 2\ne 3 1 1\n"

func TestRunTextExamples(t *testing.T) {
	checkRunText(t, exampleText, "t(x, y, z) :- e(x, y), e(y, z), e(x, z).", 1000, "1 2 3", "width 3/2 visits 18")
	checkRunText(t, exampleText, "s(x; sum) :- e(x, y), e(y, z).", 1000, "1 = 37", "2 = 7", "3 = 7", "width 1 visits 17")
}

func TestRunTextPinned(t *testing.T) {
	cases := []struct {
		query string
		lines []string
	}{
		{"q(x, y) :- e(x, y).", []string{"1 2", "1 3", "2 3", "3 1", "4 4", "width 1 visits 13"}},
		{"q(y) :- e(1, y).", []string{"2", "3", "width 1 visits 2"}},
		{"q(y; count) :- e(x, y).", []string{"1 = 1", "2 = 1", "3 = 2", "4 = 1", "width 1 visits 13"}},
		{"q(x, y; sum) :- v(y), v(x).", []string{"2 2 = 16", "2 4 = -8", "4 2 = -8", "4 4 = 4", "width 1 visits 4"}},
		// Values below 0, and 0.
		{"q(x; min) :- e(x, y), e(x, y).", []string{"1 = 4", "2 = 14", "3 = 2", "4 = -6", "width 1 visits 13"}},
		{"q(x; min) :- v(x), v(x), v(4).", []string{"2 = 6", "4 = -6", "width 1 visits 2"}},
		{"q(; min) :- v(4), e(3, 1), e(3, 1).", []string{". = 0", "width 0 visits 0"}},
		// The empty head.
		{"q() :- e(x, y).", []string{".", "width 1 visits 13"}},
		{"q(; count) :- e(x, y).", []string{". = 5", "width 1 visits 13"}},
		{"q(; sum) :- e(x, x).", []string{". = -3", "width 1 visits 1"}},
		{"q() :- e(x, y), e(y, z), e(x, z).", []string{".", "width 3/2 visits 24"}},
		// No rows.
		{"q(x) :- none(x, y).", []string{"width 1 visits 0"}},
		{"q() :- none(x, y).", []string{"width 1 visits 0"}},
		{"q(; count) :- none(x, y).", []string{"width 1 visits 0"}},
		{"q(x; sum) :- e(x, y), none(z, u).", []string{"width 1 visits 13"}},
		// No variables.
		{"q() :- e(1, 2).", []string{".", "width 0 visits 0"}},
		{"q() :- e(2, 1).", []string{"width 0 visits 0"}},
		{"q(; sum) :- e(1, 2), v(4).", []string{". = -10", "width 0 visits 0"}},
		{"q(; min) :- e(1, 2), v(5).", []string{"width 0 visits 0"}},
	}
	for _, c := range cases {
		checkRunText(t, runText, c.query, 1000, c.lines...)
		checkRunText(t, runText, c.query, impl.MaxLimit, c.lines...)
		for _, limit := range []int{-1, impl.MaxLimit + 1, math.MinInt, math.MaxInt} {
			checkRunText(t, runText, c.query, limit, "bad")
		}
	}
}

func TestRunTextLimits(t *testing.T) {
	checkRunText(t, exampleText, "s(x; sum) :- e(x, y), e(y, z).", 17, "1 = 37", "2 = 7", "3 = 7", "width 1 visits 17")
	checkRunText(t, exampleText, "s(x; sum) :- e(x, y), e(y, z).", 16, "limit 17")
	checkRunText(t, exampleText, "s(x; sum) :- e(x, y), e(y, z).", 0, "limit 17")
	checkRunText(t, exampleText, "s() :- e(1, 2).", 0, ".", "width 0 visits 0")
	// The greatest values that texts may have.
	checkRunText(t, "rel e 2\ne 1000000 0 -1000000", "q(x, y; sum) :- e(x, y), e(x, y).", 9, "1000000 0 = 1000000000000", "width 1 visits 3")
	checkRunText(t, "rel v 1\nv 0 -1000000", "q(x; min) :- v(x), v(x), v(x), v(x), v(x), v(x), v(x).", 9, "0 = -7000000", "width 1 visits 1")
	// A bag that is too great has a V of -1; a whole that is has the visits.
	cyclic := impl.PrintQuery(cycleQuery(impl.RingSum))
	checkRunText(t, impl.PrintData(cycle(73, 137)), cyclic, impl.MaxLimit, "limit -1")
	checkRunText(t, impl.PrintData(cycle(73, 137)), cyclic, 0, "limit -1")
	checkRunText(t, impl.PrintData(cycle(73, 137)), cyclic, -1, "bad")
	two := impl.PrintData(dataOf(counted("a", 0, 73), counted("b", 0, 137)))
	for _, limit := range []int{0, 209, 210, 211, impl.MaxLimit} {
		checkRunText(t, two, "q(x) :- a(x), b(y).", limit, "limit 210")
	}
	checkRunText(t, two, "q(x) :- a(x), b(y).", impl.MaxLimit+1, "bad")
	checkRunText(t, two, "q(; count) :- a(x), b(7), a(9).", 73, ". = 73", "width 1 visits 73")
}

// The error lines come ahead of bad, bad ahead of all else.
func TestRunTextOrder(t *testing.T) {
	checkRunText(t, "bad", "q(", -1, "data 1")
	checkRunText(t, runText, "q(", -1, "query 3 2")
	checkRunText(t, runText, "q(z) :- f(x).", -1, "check 4 0")
	checkRunText(t, runText, "q(z) :- e(x, y).", impl.MaxLimit+1, "check 7 0")
	checkRunText(t, runText, "q(x) :- e(x, y).", impl.MaxLimit+1, "bad")
	checkRunText(t, runText, "q(x) :- e(x, y).", -1, "bad")
	checkRunText(t, runText, "q(x) :- e(x, y).", 0, "limit 13")
}

// dataText is a text of drawn data, with lines in any order behind the rel lines.
func dataText(draw *rand.Rand) string {
	d := drawnData(draw)
	lines := strings.Split(strings.TrimSuffix(impl.PrintData(d), "\n"), "\n")
	draw.Shuffle(len(lines), func(i, j int) { lines[i], lines[j] = lines[j], lines[i] })
	slices.SortStableFunc(lines, func(a, b string) int {
		return strings.Compare(fmt.Sprint(!strings.HasPrefix(a, "rel")), fmt.Sprint(!strings.HasPrefix(b, "rel")))
	})
	return strings.Join(lines, "\n") + []string{"", "\n", "\n# end"}[draw.Intn(3)]
}

func TestRunTextAgainstOracle(t *testing.T) {
	draw := rand.New(rand.NewSource(78))
	kinds := map[string]int{}
	for range 2500 {
		data, q := dataText(draw), drawnFor(draw, "wxyz", 6)
		switch draw.Intn(12) {
		case 0:
			q.Head = append(q.Head, "nope")
		case 1:
			q.Atoms = append(q.Atoms, atomOf("e", v("x")))
		}
		query := impl.PrintQuery(q)
		if draw.Intn(8) == 0 {
			data = data[draw.Intn(len(data)):]
		}
		if draw.Intn(8) == 0 {
			query = query[:draw.Intn(len(query))]
		}
		limit := []int{-1, 0, 10, 30, impl.MaxLimit, impl.MaxLimit, impl.MaxLimit, impl.MaxLimit + 1}[draw.Intn(8)]
		want := oracleRunText(data, query, limit)
		if got := impl.RunText(data, query, limit); got != want {
			t.Fatalf("%q on %q with the limit %d: %q, want %q", query, data, limit, got, want)
		}
		if got, want := impl.Explain(data, query), oracleExplain(data, query); got != want {
			t.Fatalf("%q on %q: %q, want %q", query, data, got, want)
		}
		kinds[strings.Trim(strings.Fields(want)[0], "0123456789.-")]++
	}
	for _, kind := range []string{"data", "query", "check", "bad", "limit", "width", ""} {
		if kinds[kind] < 20 {
			t.Errorf("lines of %q came only %d times", kind, kinds[kind])
		}
	}
}

// Any bytes at all: nothing but the oracle's lines may come.
func TestTextsOfAnyBytes(t *testing.T) {
	draw := rand.New(rand.NewSource(79))
	bytes := "\n\n  rel e a t 0123-#_\x00\xff\r\tqx(),;.:-:-"
	spoiled := func(begin string) string {
		for range draw.Intn(8) {
			begin += string(bytes[draw.Intn(len(bytes))])
		}
		return begin
	}
	dataBegins := []string{"", "rel a 1\n", "rel a 1\na 1 1\na 3 -2\nrel e 2\ne 1 2 3", "#", "\n"}
	queryBegins := []string{"", "q", "q(x)", "q(x):-a(x)", "q(x;min):-e(x,1).", "q(x):-a(x).", "q():-e(x,y),a(x).", "q(y):-a(3)."}
	for range 20000 {
		data, query := spoiled(dataBegins[draw.Intn(len(dataBegins))]), spoiled(queryBegins[draw.Intn(len(queryBegins))])
		limit := draw.Intn(12) - 1
		if got, want := impl.RunText(data, query, limit), oracleRunText(data, query, limit); got != want {
			t.Fatalf("%q on %q with the limit %d: %q, want %q", query, data, limit, got, want)
		}
		if got, want := impl.Explain(data, query), oracleExplain(data, query); got != want {
			t.Fatalf("%q on %q: %q, want %q", query, data, got, want)
		}
	}
	for c := range 256 {
		b := string([]byte{byte(c)})
		for _, texts := range [][]string{{b, b}, {"rel a 1\n" + b, "q(x):-a(x)."}, {"rel a 1", b + "q(x):-a(x)."}, {"rel a 1", "q(x):-a(x)." + b}} {
			if got, want := impl.RunText(texts[0], texts[1], 9), oracleRunText(texts[0], texts[1], 9); got != want {
				t.Errorf("%q: %q, want %q", texts, got, want)
			}
			if got, want := impl.Explain(texts[0], texts[1]), oracleExplain(texts[0], texts[1]); got != want {
				t.Errorf("%q: %q, want %q", texts, got, want)
			}
		}
	}
}

// The lines are those of Run's result, also for many rows.
func TestRunTextAgainstRun(t *testing.T) {
	d := grown(20)
	for _, text := range []string{"q(x, y, z) :- e(x, y), e(y, z).", "q(z, x; sum) :- e(x, y), e(y, z).", "q() :- e(x, y).", "q(; count) :- e(x, y), e(y, z).", "q(x) :- e(x, y), e(z, u)."} {
		q := parsed(t, text)
		for _, limit := range []int{0, 1000, impl.MaxLimit} {
			if got, want := impl.RunText(impl.PrintData(d), text, limit), oracleLines(impl.Run(d, q, limit), q.Ring); got != want {
				t.Errorf("%s with the limit %d: %.200q, want %.200q", text, limit, got, want)
			}
		}
	}
}
