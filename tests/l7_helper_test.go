package tests

import (
	"fmt"
	"slices"
	"strings"
	"testing"

	"loop.example/s01205/impl"
)

func sameResult(a, b impl.Result) bool {
	return a.Code == b.Code && a.Why == b.Why && a.Place == b.Place && sameLists(a.Rows, b.Rows) &&
		slices.Equal(a.Values, b.Values) && a.Width == b.Width && a.Visits == b.Visits
}

// okResult is one without a fault.
func okResult(rows [][]int, width impl.Rat, visits int, values ...int) impl.Result {
	return impl.Result{Code: impl.RunOK, Rows: rows, Values: values, Width: width, Visits: visits}
}

// limitResult has neither rows nor values.
func limitResult(why int, width impl.Rat, visits int) impl.Result {
	return impl.Result{Code: impl.RunLimit, Why: why, Width: width, Visits: visits}
}

func checkResult(why, place int) impl.Result {
	return impl.Result{Code: impl.RunCheck, Why: why, Place: place}
}

func badResult() impl.Result { return impl.Result{Code: impl.RunBad} }

// read is the data of a text that must be right.
func read(t *testing.T, text string) impl.Data {
	t.Helper()
	d, line := impl.ParseData(text)
	if line != 0 {
		t.Fatalf("%.80q: line %d", text, line)
	}
	return d
}

// guardedData has marked room behind the end of each of its lists.
func guardedData(d impl.Data) impl.Data {
	rels := make([]impl.Relation, 0, len(d.Rels)+1)
	for _, r := range d.Rels {
		rels = append(rels, impl.Relation{Name: r.Name, Arity: r.Arity, Rows: guarded(r.Rows), Weights: guardedList(r.Weights)})
	}
	return impl.Data{Rels: append(rels, impl.Relation{Name: "guard"})[:len(d.Rels)]}
}

func dataHolds(d impl.Data) bool {
	for _, r := range d.Rels {
		if !guardsHold(r.Rows) || !guardHolds(r.Weights) {
			return false
		}
	}
	return sameRelation(d.Rels[:len(d.Rels)+1][len(d.Rels)], impl.Relation{Name: "guard"})
}

func guardedQuery(q impl.Query) impl.Query {
	q = cloneQuery(q)
	q.Head = append(q.Head, "guard")[:len(q.Head)]
	for i, atom := range q.Atoms {
		q.Atoms[i].Terms = append(atom.Terms, n(guard))[:len(atom.Terms)]
	}
	q.Atoms = append(q.Atoms, atomOf("guard"))[:len(q.Atoms)]
	return q
}

func queryHolds(q impl.Query) bool {
	for _, atom := range q.Atoms {
		if atom.Terms[:len(atom.Terms)+1][len(atom.Terms)] != n(guard) {
			return false
		}
	}
	return q.Head[:len(q.Head)+1][len(q.Head)] == "guard" && sameAtom(q.Atoms[:len(q.Atoms)+1][len(q.Atoms)], atomOf("guard"))
}

// spoilResult overwrites all memory of an answer; no two lists of it may share any.
func spoilResult(t *testing.T, r impl.Result) {
	t.Helper()
	checkApart(t, append(slices.Clone(r.Rows), r.Values))
	checkOuterApart(t, [][][]int{r.Rows})
}

// short is a text of anything, cut where it is long.
func short(x any) string {
	text := fmt.Sprint(x)
	return text[:min(len(text), 600)]
}

// checkRun asks for the result, for arguments that stay as they were, and for
// new memory.
func checkRun(t *testing.T, d impl.Data, q impl.Query, limit int, want impl.Result) {
	t.Helper()
	data, query := guardedData(d), guardedQuery(q)
	got := impl.Run(data, query, limit)
	if !sameResult(got, want) {
		t.Fatalf("Run of %s with the limit %d on %s: %s, want %s", short(q), limit, short(d), short(got), short(want))
	}
	spoilResult(t, got)
	if !sameData(data, d) || !sameQuery(query, q) {
		t.Fatalf("an argument was changed, or shares memory with the answer: %s, %s", short(d), short(q))
	}
	if !dataHolds(data) || !queryHolds(query) {
		t.Fatalf("there's a write behind a list of an argument: %s, %s", short(d), short(q))
	}
}

// checkLines holds a text against lines, each of which ends with byte 10.
func checkLines(t *testing.T, what, got string, lines ...string) {
	t.Helper()
	want := ""
	for _, line := range lines {
		want += line + "\n"
	}
	if got != want {
		t.Errorf("%s: %q, want %q", what, got, want)
	}
}

func checkExplain(t *testing.T, data, query string, lines ...string) {
	t.Helper()
	checkLines(t, "Explain of "+query, impl.Explain(data, query), lines...)
}

func checkRunText(t *testing.T, data, query string, limit int, lines ...string) {
	t.Helper()
	checkLines(t, "RunText of "+query, impl.RunText(data, query, limit), lines...)
}

// filled has just the given number of bytes: the text and then blank ones.
func filled(text, blank string, length int) string {
	return text + strings.Repeat(blank, length-len(text))
}

// crossed is a query of one atom for each relation, each with a variable of its own.
func crossed(head []string, ring int, rels ...string) impl.Query {
	q := queryOf("q", head, ring)
	for i, rel := range rels {
		q.Atoms = append(q.Atoms, atomOf(rel, v("xyzuvw"[i:i+1])))
	}
	return q
}

// counted is a relation of one column with the values 0 to n-1, from first on.
func counted(name string, first, n int) impl.Relation {
	r := impl.Relation{Name: name, Arity: 1}
	for i := range n {
		r.Rows, r.Weights = append(r.Rows, []int{first + i}), append(r.Weights, 1)
	}
	return r
}

// pairs has a row for each number below n.
func pairs(name string, n int, row func(i int) []int) impl.Relation {
	r := impl.Relation{Name: name, Arity: 2}
	for i := range n {
		r.Rows, r.Weights = append(r.Rows, row(i)), append(r.Weights, 1)
	}
	return r
}
