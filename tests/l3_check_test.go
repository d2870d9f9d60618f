package tests

import (
	"fmt"
	"math/rand"
	"slices"
	"strings"
	"testing"

	"loop.example/s01205/impl"
)

// checkData has one relation of each arity.
func checkData() impl.Data {
	return dataOf(relation("a", 1, [][]int{{1}, {2}}, 5, 6), relation("e", 2, [][]int{{1, 2}, {2, 2}}, 7, 8), relation("t", 3, nil))
}

func wantCheck(t *testing.T, what string, d impl.Data, q impl.Query, code, place int) {
	t.Helper()
	gotCode, gotPlace := impl.CheckQuery(d, q)
	if gotCode != code || gotPlace != place {
		t.Errorf("%s: code %d at %d, want %d at %d", what, gotCode, gotPlace, code, place)
	}
}

func TestCheckQueryPinned(t *testing.T) {
	cases := []struct {
		text        string
		code, place int
	}{
		{"q() :- a(1).", impl.CheckOK, 0},
		{"q(x) :- a(x).", impl.CheckOK, 0},
		{"q(y, x; sum) :- e(x, y).", impl.CheckOK, 0},
		{"a(x) :- a(x).", impl.CheckOK, 0},
		{"q(z, x) :- t(x, 3, z), e(1000000, x), a(z).", impl.CheckOK, 0},
		{"q() :- b(1).", impl.CheckRel, 0},
		{"q() :- a(1), a(2), b(1).", impl.CheckRel, 2},
		{"q() :- A(1).", impl.CheckRel, 0},
		{"q() :- rel(1).", impl.CheckRel, 0},
		{"q() :- a(1, 2).", impl.CheckArity, 0},
		{"q() :- a(1), e(2).", impl.CheckArity, 1},
		{"q() :- e(1, 2), t(1, 2).", impl.CheckArity, 1},
		{"q() :- t(1, 2, 3, 4).", impl.CheckArity, 0},
		{"q() :- t(a, b, c), t(d, f, g).", impl.CheckOK, 0},
		{"q() :- t(a, b, c), t(d, f, g), a(h).", impl.CheckVars, 0},
		{"q() :- t(a, b, c), t(d, f, g), t(1, a, 1), t(f, f, g).", impl.CheckOK, 0},
		{"q(h) :- a(x).", impl.CheckHead, 0},
		{"q(x, h) :- a(x).", impl.CheckHead, 1},
		{"q(x, x) :- a(x).", impl.CheckHead, 1},
		{"q(x, y, y) :- e(x, y).", impl.CheckHead, 2},
		{"q(x, y, x) :- e(x, y).", impl.CheckHead, 2},
		{"q(x, y, h, x) :- e(x, y).", impl.CheckHead, 2},
		{"q(x, y, x, h) :- e(x, y).", impl.CheckHead, 2},
		{"q(e) :- e(x, y).", impl.CheckHead, 0},
		{"q(X) :- a(x).", impl.CheckHead, 0},
		{"q(a, b, c, d, f, g) :- t(a, b, c), t(d, f, g).", impl.CheckOK, 0},
		{"q(a, b, c, d, f, g, h) :- t(a, b, c), t(d, f, g).", impl.CheckHead, 6},
		{"q(a, b, c, d, f, g, a) :- t(a, b, c), t(d, f, g).", impl.CheckHead, 6},
	}
	for _, c := range cases {
		wantCheck(t, c.text, checkData(), parsed(t, c.text), c.code, c.place)
	}
	wantCheck(t, "no relation", impl.Data{}, parsed(t, "q() :- a(1)."), impl.CheckRel, 0)
	wantCheck(t, "no relation, no query", impl.Data{}, impl.Query{}, impl.CheckShape, 0)
}

// The first of two faults is answered, in the order of 3.2: whatever stands
// first in the text.
func TestCheckQueryOrder(t *testing.T) {
	eight := func(text string) string { return text + strings.Repeat(", a(1)", 7) + "." }
	cases := []struct {
		text        string
		code, place int
	}{
		{eight("q(x, x) :- b(1, 2)"), impl.CheckAtoms, 0},
		{eight("q() :- a(1, 2)"), impl.CheckAtoms, 0},
		{"q() :- t(a, b, c), t(d, f, g), e(h, i), a(j), a(k), a(l), a(m), a(n).", impl.CheckAtoms, 0},
		{"q() :- a(1, 2), b(1).", impl.CheckArity, 0},
		{"q() :- b(1), a(1, 2).", impl.CheckRel, 0},
		{"q() :- b(1, 2).", impl.CheckRel, 0},
		{"q() :- b(1), c(1).", impl.CheckRel, 0},
		{"q() :- t(a, b, c), t(d, f, g), e(h, i), b(1).", impl.CheckRel, 3},
		{"q() :- t(a, b, c), t(d, f, g), e(h, i), a(1, 2).", impl.CheckArity, 3},
		{"q() :- t(a, b, c, d, f, g, h).", impl.CheckArity, 0},
		{"q(h) :- b(x).", impl.CheckRel, 0},
		{"q(h) :- a(x, y).", impl.CheckArity, 0},
		{"q(x, x) :- t(a, b, c), t(d, f, g), e(h, i).", impl.CheckVars, 0},
	}
	for _, c := range cases {
		wantCheck(t, c.text, checkData(), parsed(t, c.text), c.code, c.place)
	}
	bad := checkData()
	bad.Rels[0].Weights[0] = impl.MaxWeight + 1
	for what, q := range badShapes() {
		wantCheck(t, what, bad, q, impl.CheckData, 0)
		wantCheck(t, what, checkData(), q, impl.CheckShape, 0)
		for range impl.MaxAtoms {
			q.Atoms = append(slices.Clone(q.Atoms), atomOf("a", n(1)))
		}
		if what != "no atom" {
			wantCheck(t, what+" and too many atoms", checkData(), q, impl.CheckShape, 0)
		}
	}
	wantCheck(t, "bad data, good query", bad, parsed(t, "q() :- a(1)."), impl.CheckData, 0)
}

func TestCheckQueryBadData(t *testing.T) {
	q := parsed(t, "q() :- r0(1).")
	wantCheck(t, "as many as may be", countedRelations(impl.MaxRels), q, impl.CheckOK, 0)
	wantCheck(t, "one more relation", countedRelations(impl.MaxRels+1), q, impl.CheckData, 0)
	for what, change := range map[string]func(*impl.Relation){
		"a name":           func(r *impl.Relation) { r.Name = "rel" },
		"an arity":         func(r *impl.Relation) { r.Arity = 4 },
		"rows in disorder": func(r *impl.Relation) { r.Rows = [][]int{{2}, {1}} },
		"a row twice":      func(r *impl.Relation) { r.Rows = [][]int{{2}, {2}} },
		"a short row":      func(r *impl.Relation) { r.Rows = [][]int{{}, {1}} },
		"a value":          func(r *impl.Relation) { r.Rows = [][]int{{1}, {impl.MaxValue + 1}} },
		"the weights":      func(r *impl.Relation) { r.Weights = nil },
	} {
		d := checkData()
		change(&d.Rels[0])
		wantCheck(t, what, d, parsed(t, "q() :- e(1, 1)."), impl.CheckData, 0)
		if got := impl.Bind(d, parsed(t, "q() :- e(1, 1).")); len(got) != 0 {
			t.Error(what, got)
		}
	}
}

// Lists of any length: each fault is found however long the others are.
func TestCheckQueryLongLists(t *testing.T) {
	d := checkData()
	q := queryOf("q", slices.Repeat([]string{"x"}, 300000), impl.RingNone, atomOf("a", v("x")))
	wantCheck(t, "a long head", d, q, impl.CheckHead, 1)
	q = queryOf("q", nil, impl.RingNone, atomOf("a", slices.Repeat([]impl.Term{n(1)}, 300000)...))
	wantCheck(t, "a long atom", d, q, impl.CheckArity, 0)
	q = queryOf("q", nil, impl.RingNone, slices.Repeat([]impl.Atom{atomOf("a", n(1))}, 300000)...)
	wantCheck(t, "many atoms", d, q, impl.CheckAtoms, 0)
	q.Atoms = q.Atoms[:impl.MaxAtoms]
	wantCheck(t, "MaxAtoms atoms", d, q, impl.CheckOK, 0)
	q.Atoms = q.Atoms[:impl.MaxAtoms+1]
	wantCheck(t, "one atom more", d, q, impl.CheckAtoms, 0)
}

// oracleCheck puts down all faults with their ranks, and takes the least.
func oracleCheck(d impl.Data, q impl.Query) (int, int) {
	faults := [][]int{{100, impl.CheckOK, 0}}
	if !impl.DataOK(d) {
		faults = append(faults, []int{0, impl.CheckData, 0})
	}
	good := shortName.MatchString(q.Name) && len(q.Atoms) > 0 && q.Ring >= 0 && q.Ring <= 3
	names := map[string]bool{}
	for i, a := range q.Atoms {
		good = good && shortName.MatchString(a.Rel) && len(a.Terms) > 0
		for _, term := range a.Terms {
			if term.Var != "" {
				names[term.Var] = true
			}
			good = good && (term.Var == "" && term.Val >= 0 && term.Val <= 1000000 || shortName.MatchString(term.Var) && term.Val == 0)
		}
		arity := -1
		for _, rel := range d.Rels {
			if rel.Name == a.Rel {
				arity = rel.Arity
			}
		}
		if arity == -1 {
			faults = append(faults, []int{10 + i, impl.CheckRel, i})
		} else if arity != len(a.Terms) {
			faults = append(faults, []int{10 + i, impl.CheckArity, i})
		}
	}
	for j, name := range q.Head {
		good = good && shortName.MatchString(name)
		if !names[name] || slices.Index(q.Head, name) < j {
			faults = append(faults, []int{40 + j, impl.CheckHead, j})
		}
	}
	if !good {
		faults = append(faults, []int{1, impl.CheckShape, 0})
	}
	if len(q.Atoms) > 7 {
		faults = append(faults, []int{2, impl.CheckAtoms, 0})
	}
	if len(names) > 6 {
		faults = append(faults, []int{30, impl.CheckVars, 0})
	}
	least := slices.MinFunc(faults, slices.Compare)
	return least[1], least[2]
}

// drawnFor draws a query for the relations a, e and t that is right but for a
// few faults now and then.
func drawnFor(r *rand.Rand, names string, most int) impl.Query {
	q := impl.Query{Name: "q", Ring: r.Intn(4)}
	rels := []string{"a", "e", "t"}
	for range 1 + r.Intn(most) {
		arity := 1 + r.Intn(3)
		a := impl.Atom{Rel: rels[arity-1]}
		for range arity {
			if r.Intn(4) == 0 {
				a.Terms = append(a.Terms, n(r.Intn(4)))
			} else {
				a.Terms = append(a.Terms, v(names[r.Intn(len(names)):][:1]))
			}
		}
		q.Atoms = append(q.Atoms, a)
	}
	for _, name := range impl.Variables(q) {
		if r.Intn(2) == 0 {
			q.Head = append(q.Head, name)
		}
	}
	r.Shuffle(len(q.Head), func(i, j int) { q.Head[i], q.Head[j] = q.Head[j], q.Head[i] })
	return q
}

func spoilAtRandom(r *rand.Rand, d *impl.Data, q *impl.Query) {
	at := r.Intn(len(q.Atoms))
	switch r.Intn(16) {
	case 0:
		d.Rels[r.Intn(2)].Weights = nil
	case 1:
		q.Ring = 4 - 5*r.Intn(2)
	case 2:
		q.Atoms[at].Rel = []string{"", "b", "E", "a", "e", "t"}[r.Intn(6)]
	case 3:
		q.Atoms[at].Terms = append(q.Atoms[at].Terms, v("x"))
	case 4:
		q.Atoms[at].Terms = q.Atoms[at].Terms[min(1, len(q.Atoms[at].Terms)):]
	case 5:
		q.Head = append(q.Head, []string{"x", "y", "nope", "1"}[r.Intn(4)])
	case 6:
		q.Head = append([]string{[]string{"x", "y", "nope", "1"}[r.Intn(4)]}, q.Head...)
	case 7:
		q.Atoms = append(q.Atoms, atomOf("e", v("m"), v("n")), atomOf("e", v("o"), v("p")))
	case 8:
		q.Atoms = append(q.Atoms, slices.Repeat([]impl.Atom{atomOf("a", n(1))}, 5)...)
	case 9:
		q.Name = []string{"", "p", "_"}[r.Intn(3)]
	}
}

func TestCheckQueryAgainstOracle(t *testing.T) {
	r := rand.New(rand.NewSource(34))
	counts := map[int]int{}
	for range 30000 {
		d, q := checkData(), drawnFor(r, "uvwxyz", 6)
		for range r.Intn(4) {
			spoilAtRandom(r, &d, &q)
		}
		dBefore, qBefore := cloneData(d), cloneQuery(q)
		code, place := oracleCheck(d, q)
		wantCheck(t, fmt.Sprint(q), d, q, code, place)
		counts[code]++
		if !sameData(d, dBefore) || !sameQuery(q, qBefore) {
			t.Fatal("an argument was changed:", qBefore)
		}
		if bound := impl.Bind(d, q); code != impl.CheckOK && len(bound) != 0 {
			t.Fatal("tables of a query that doesn't check:", q)
		}
	}
	for code := impl.CheckOK; code <= impl.CheckHead; code++ {
		if counts[code] < 400 {
			t.Errorf("code %d came only %d times", code, counts[code])
		}
	}
}

func TestVariablesPinned(t *testing.T) {
	cases := map[string]string{
		"q() :- r(1).":                                  "",
		"q(x) :- r(x).":                                 "x",
		"q(x, y) :- r(y, x).":                           "y x",
		"q() :- r(b, a, b), s(c, 3, a), t(d).":          "b a c d",
		"q(z, h) :- r(1, z), z(r).":                     "z r",
		"q() :- r(a, A, a_, a0).":                       "a A a_ a0",
		"q() :- r(h, g, f, e, d, c, b, a), s(a, h, i).": "h g f e d c b a i",
		"q(x, x; min) :- r(x), r(x), r(x), r(y), r(x), r(x), r(x), r(z), r(x).": "x y z",
	}
	for text, want := range cases {
		if got := impl.Variables(parsed(t, text)); strings.Join(got, " ") != want {
			t.Errorf("%q: %q", text, got)
		}
	}
	for what, q := range badShapes() {
		if got := impl.Variables(q); len(got) != 0 {
			t.Errorf("%.40q: %q", what, got)
		}
	}
}

func TestVariablesMany(t *testing.T) {
	q := queryOf("q", nil, impl.RingNone, atomOf("r", n(1)))
	var want []string
	for i := range 100000 {
		name := fmt.Sprint("v", i)
		want = append(want, name)
		q.Atoms = append(q.Atoms, atomOf("r", v(name), v("v0"), n(2)))
	}
	if got := impl.Variables(q); !slices.Equal(got, want) {
		t.Error(len(got))
	}
}

func TestVariablesNewMemory(t *testing.T) {
	q := parsed(t, "q(x) :- r(x, y, x), s(y, z).")
	before := cloneQuery(q)
	got := impl.Variables(q)
	for _, name := range got {
		for _, other := range namesOf(q) {
			if liesIn(name, other) {
				t.Error("a name lies in the query:", name)
			}
		}
	}
	for i := range got[:cap(got)] {
		got[:cap(got)][i] = "spoiled"
	}
	if !sameQuery(q, before) || !slices.Equal(impl.Variables(q), []string{"x", "y", "z"}) {
		t.Error(q)
	}
}
