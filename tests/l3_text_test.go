package tests

import (
	"math"
	"math/rand"
	"regexp"
	"strings"
	"testing"

	"loop.example/s01205/impl"
)

// checkParse holds code and offset against what is asked, and the query, where
// there is a fault, against the one without anything.
func checkParse(t *testing.T, text string, code, offset int) {
	t.Helper()
	q, gotCode, gotOffset := impl.ParseQuery(text)
	if gotCode != code || gotOffset != offset {
		t.Errorf("%q: code %d at %d, want %d at %d", text, gotCode, gotOffset, code, offset)
	}
	if gotCode != impl.QueryOK && !sameQuery(q, impl.Query{}) {
		t.Errorf("%q: a fault and a query: %v", text, q)
	}
}

func TestParseQueryPinned(t *testing.T) {
	cases := []struct {
		text string
		want impl.Query
	}{
		{"q():-r(1).", queryOf("q", nil, impl.RingNone, atomOf("r", n(1)))},
		{"q(;count):-r(x).", queryOf("q", nil, impl.RingCount, atomOf("r", v("x")))},
		{"q(;sum):-r(x).", queryOf("q", nil, impl.RingSum, atomOf("r", v("x")))},
		{"q(;min):-r(x).", queryOf("q", nil, impl.RingMin, atomOf("r", v("x")))},
		{"q(x):-r(x).", queryOf("q", []string{"x"}, impl.RingNone, atomOf("r", v("x")))},
		{"q(x;min):-r(x).", queryOf("q", []string{"x"}, impl.RingMin, atomOf("r", v("x")))},
		{"q(x,y,x;sum):-r(x).", queryOf("q", []string{"x", "y", "x"}, impl.RingSum, atomOf("r", v("x")))},
		{"\t\r\n q ( x ) :- r ( x , 7 ) . \t\r\n", queryOf("q", []string{"x"}, impl.RingNone, atomOf("r", v("x"), n(7)))},
		{"q(x):-r(x,x,3),s(y),r(0,1,2,4).", queryOf("q", []string{"x"}, impl.RingNone, atomOf("r", v("x"), v("x"), n(3)), atomOf("s", v("y")), atomOf("r", n(0), n(1), n(2), n(4)))},
		{"Z_9a(A__):-rel(a_,Zz0).", queryOf("Z_9a", []string{"A__"}, impl.RingNone, atomOf("rel", v("a_"), v("Zz0")))},
		{"sum(count,min;sum):-min(sum,count).", queryOf("sum", []string{"count", "min"}, impl.RingSum, atomOf("min", v("sum"), v("count")))},
	}
	for _, c := range cases {
		q, code, offset := impl.ParseQuery(c.text)
		if code != impl.QueryOK || offset != 0 || !sameQuery(q, c.want) {
			t.Errorf("%q: %v, code %d at %d", c.text, q, code, offset)
		}
	}
}

func TestParseQueryNumbers(t *testing.T) {
	zeros := strings.Repeat("0", 2900)
	cases := map[string]int{
		"0": 0, "00": 0, "7": 7, "007": 7, "10": 10, "0100": 100, "999999": 999999, "1000000": 1000000, "0001000000": 1000000,
		zeros: 0, zeros + "1": 1, zeros + "1000000": 1000000,
	}
	for digits, want := range cases {
		q := parsed(t, "q():-r("+digits+").")
		if q.Atoms[0].Terms[0] != n(want) {
			t.Errorf("%.20q: %v", digits, q.Atoms[0].Terms[0])
		}
	}
	for _, digits := range []string{"1000001", "0001000001", "10000000", "9999999", "9223372036854775807", "18446744073709551616", "18446744073709551617", zeros + "1000001", strings.Repeat("9", 2900)} {
		checkParse(t, "q():-r("+digits+").", impl.QueryLex, 7)
	}
}

// A number ends where its digits end: what follows is the next token.
func TestParseQueryTokensInARow(t *testing.T) {
	checkParse(t, "q():-r(1x).", impl.QuerySyntax, 8)
	checkParse(t, "q():-r(1 2).", impl.QuerySyntax, 9)
	checkParse(t, "q():-r(x1 x).", impl.QuerySyntax, 10)
	checkParse(t, "q():-r(1_).", impl.QueryLex, 8)
	checkParse(t, "1q():-r(1).", impl.QuerySyntax, 0)
	checkParse(t, "q():-r(1)..", impl.QuerySyntax, 10)
	checkParse(t, "q():-r(1).:-", impl.QuerySyntax, 10)
	checkParse(t, "q():-:-r(1).", impl.QuerySyntax, 5)
}

func TestParseQueryNames(t *testing.T) {
	name := "a" + strings.Repeat("Z_9", 9) + "bc"
	if len(name) != impl.MaxName {
		t.Fatal(len(name))
	}
	q := parsed(t, name+"("+name+"):-"+name+"("+name+").")
	if !sameQuery(q, queryOf(name, []string{name}, impl.RingNone, atomOf(name, v(name)))) {
		t.Error(q)
	}
	long := name + "d"
	checkParse(t, long+"(x):-r(x).", impl.QueryLex, 0)
	checkParse(t, "q("+long+"):-r(x).", impl.QueryLex, 2)
	checkParse(t, "q(x;"+long+"):-r(x).", impl.QueryLex, 4)
	checkParse(t, "q(x):-"+long+"(x).", impl.QueryLex, 6)
	checkParse(t, "q(x):-r("+long+").", impl.QueryLex, 8)
	checkParse(t, "q(x):-r(x)."+strings.Repeat("x", 2000), impl.QueryLex, 11)
	// A long name isn't cut into two tokens, and the first of two faults counts.
	checkParse(t, "q("+long+" 1000001 #", impl.QueryLex, 2)
	checkParse(t, "q(1000001 "+long+" #", impl.QueryLex, 2)
	checkParse(t, "q(# 1000001 "+long, impl.QueryLex, 2)
}

// Every byte at all, at the end of a query and before one.
func TestParseQueryEveryByte(t *testing.T) {
	whole := "q(x):-r(x)."
	for c := range 256 {
		b := string([]byte{byte(c)})
		switch {
		case strings.Contains("\t\n\r ", b):
			checkParse(t, whole+b, impl.QueryOK, 0)
			checkParse(t, b+whole, impl.QueryOK, 0)
		case 'a' <= c && c <= 'z' || 'A' <= c && c <= 'Z':
			checkParse(t, whole+b, impl.QuerySyntax, len(whole))
			checkParse(t, b+whole, impl.QueryOK, 0)
		case strings.Contains("(),;.0123456789", b):
			checkParse(t, whole+b, impl.QuerySyntax, len(whole))
			checkParse(t, b+whole, impl.QuerySyntax, 0)
		default:
			checkParse(t, whole+b, impl.QueryLex, len(whole))
			checkParse(t, whole+b+b, impl.QueryLex, len(whole))
			checkParse(t, b+whole, impl.QueryLex, 0)
			checkParse(t, ") "+b, impl.QueryLex, 2)
		}
	}
}

func TestParseQueryColons(t *testing.T) {
	checkParse(t, ":", impl.QueryLex, 0)
	checkParse(t, "q(x):", impl.QueryLex, 4)
	checkParse(t, "q(x): -r(x).", impl.QueryLex, 4)
	checkParse(t, "q(x)::-r(x).", impl.QueryLex, 4)
	checkParse(t, "q(x)-:r(x).", impl.QueryLex, 4)
	checkParse(t, "q(x)-r(x).", impl.QueryLex, 4)
	checkParse(t, "q(x):=r(x).", impl.QueryLex, 4)
	checkParse(t, "q(x):--r(x).", impl.QueryLex, 6)
	checkParse(t, "q(x):-r(x):.", impl.QueryLex, 10)
	checkParse(t, ":-", impl.QuerySyntax, 0)
}

// The whole text is cut into tokens first, so a fault of syntax waits.
func TestParseQueryLexBeforeSyntax(t *testing.T) {
	checkParse(t, ")#", impl.QueryLex, 1)
	checkParse(t, "#)", impl.QueryLex, 0)
	checkParse(t, "q(x) r(x). #", impl.QueryLex, 11)
	checkParse(t, "q(x) :- r(x). more 1000001", impl.QueryLex, 19)
	checkParse(t, "q(x) :- r(x). more and more _", impl.QueryLex, 28)
	checkParse(t, "q(x) # r(x) :", impl.QueryLex, 5)
}

func TestParseQueryLengths(t *testing.T) {
	text := "q(x):-r(x)."
	spaces := func(count int) string { return strings.Repeat(" ", count) }
	checkParse(t, text+spaces(impl.MaxQuery-len(text)), impl.QueryOK, 0)
	checkParse(t, spaces(impl.MaxQuery-len(text))+text, impl.QueryOK, 0)
	checkParse(t, text+spaces(impl.MaxQuery+1-len(text)), impl.QueryLong, 0)
	checkParse(t, "#"+spaces(impl.MaxQuery), impl.QueryLong, 0)
	checkParse(t, spaces(impl.MaxQuery+1), impl.QueryLong, 0)
	checkParse(t, spaces(impl.MaxQuery), impl.QuerySyntax, impl.MaxQuery)
	checkParse(t, spaces(impl.MaxQuery-1)+"#", impl.QueryLex, impl.MaxQuery-1)
	checkParse(t, spaces(impl.MaxQuery-1)+")", impl.QuerySyntax, impl.MaxQuery-1)
	checkParse(t, strings.Repeat("(", 100*impl.MaxQuery), impl.QueryLong, 0)
	long := "q(x" + strings.Repeat(",x", 1200) + "):-" + strings.Repeat("r(x),", 110) + "r(x)."
	q := parsed(t, long)
	if len(q.Head) != 1201 || len(q.Atoms) != 111 {
		t.Error(len(long), len(q.Head), len(q.Atoms))
	}
}

// Behind each beginning of a query stands each token, with spaces around it,
// and no token; at says which tokens may stand there.
func TestParseQueryEveryPlace(t *testing.T) {
	tokens := []string{"x", "sum", "3", "(", ")", ",", ";", ".", ":-"}
	names := "x sum"
	cases := []struct{ begin, at string }{
		{"", names},
		{"q", "("},
		{"q(", names + " ; )"},
		{"q(x", ", ; )"},
		{"q(x,", names},
		{"q(x,y", ", ; )"},
		{"q(;", "sum"},
		{"q(x;", "sum"},
		{"q(x;min", ")"},
		{"q()", ":-"},
		{"q(x)", ":-"},
		{"q(;count)", ":-"},
		{"q(x;sum)", ":-"},
		{"q():-", names},
		{"q():-r", "("},
		{"q():-r(", names + " 3"},
		{"q():-r(x", ", )"},
		{"q():-r(3", ", )"},
		{"q():-r(x,", names + " 3"},
		{"q():-r(x,y", ", )"},
		{"q():-r(x,4", ", )"},
		{"q():-r(x)", ", ."},
		{"q():-r(x),", names},
		{"q():-r(x),s", "("},
		{"q():-r(x),s(", names + " 3"},
		{"q():-r(x),s(5", ", )"},
		{"q():-r(x),s(5)", ", ."},
	}
	for _, c := range cases {
		checkParse(t, c.begin, impl.QuerySyntax, len(c.begin))
		checkParse(t, c.begin+" \n", impl.QuerySyntax, len(c.begin)+2)
		for _, token := range tokens {
			text := c.begin + " " + token
			switch {
			case !strings.Contains(" "+c.at+" ", " "+token+" "):
				checkParse(t, text+" ", impl.QuerySyntax, len(c.begin)+1)
				checkParse(t, text+" ) 3 3", impl.QuerySyntax, len(c.begin)+1)
			case token == ".":
				checkParse(t, text+" ", impl.QueryOK, 0)
			default:
				checkParse(t, text+" ", impl.QuerySyntax, len(text)+1)
			}
		}
	}
	for _, token := range tokens {
		checkParse(t, "q():-r(x). "+token, impl.QuerySyntax, 11)
		checkParse(t, "q():-r(x).\n\n"+token+" q", impl.QuerySyntax, 12)
	}
}

func TestParseQueryRings(t *testing.T) {
	for _, word := range []string{"avg", "Sum", "SUM", "su", "summ", "counts", "minimum", "max", "x", "none", "rel"} {
		checkParse(t, "q(x; "+word+") :- r(x).", impl.QuerySyntax, 5)
		checkParse(t, "q(;"+word, impl.QuerySyntax, 3)
	}
	checkParse(t, "q(x; 1) :- r(x).", impl.QuerySyntax, 5)
	checkParse(t, "q(x; sum, min) :- r(x).", impl.QuerySyntax, 8)
	checkParse(t, "q(x; sum min) :- r(x).", impl.QuerySyntax, 9)
	checkParse(t, "q(x, ; sum) :- r(x).", impl.QuerySyntax, 5)
	checkParse(t, "q(, x) :- r(x).", impl.QuerySyntax, 2)
	checkParse(t, "q(x y) :- r(x).", impl.QuerySyntax, 4)
}

// The oracle cuts by patterns, spells each token by one letter, and has one
// pattern for all queries. Letters begin a query if some end of a query makes
// them one.
var (
	oneToken   = regexp.MustCompile(`^(?:[A-Za-z][A-Za-z0-9_]*|[0-9]+|[(),;.]|:-)`)
	shortName  = regexp.MustCompile(`^[A-Za-z][A-Za-z0-9_]{0,29}$`)
	smallValue = regexp.MustCompile(`^0*(?:[0-9]{1,6}|1000000)$`)
	spelled    = regexp.MustCompile(`^[NR]\((?:[NR](?:,[NR])*)?(?:;R)?\):(?:[NR]\([NR0](?:,[NR0])*\),)*[NR]\([NR0](?:,[NR0])*\)\.$`)
)

func letterOf(token string) string {
	switch {
	case token == "count" || token == "sum" || token == "min":
		return "R"
	case shortName.MatchString(token):
		return "N"
	case smallValue.MatchString(token):
		return "0"
	case strings.Contains("(),;.", token):
		return token
	case token == ":-":
		return ":"
	}
	return ""
}

func beginsQuery(letters string) bool {
	for _, whole := range []string{"N(N;R):N(N).", "N(N,N):N(N,N)."} {
		for i := range len(whole) + 1 {
			if spelled.MatchString(letters + whole[i:]) {
				return true
			}
		}
	}
	return false
}

func oracleQuery(text string) (impl.Query, int, int) {
	if len(text) > 3000 {
		return impl.Query{}, impl.QueryLong, 0
	}
	var tokens []string
	var offsets []int
	letters := ""
	for at := 0; at < len(text); {
		if strings.Contains("\t\n\r ", text[at:at+1]) {
			at++
			continue
		}
		token := oneToken.FindString(text[at:])
		if token == "" || letterOf(token) == "" {
			return impl.Query{}, impl.QueryLex, at
		}
		tokens, offsets, letters = append(tokens, token), append(offsets, at), letters+letterOf(token)
		at += len(token)
	}
	if spelled.MatchString(letters) {
		return oracleParts(strings.Join(tokens, " ")), impl.QueryOK, 0
	}
	for i := range tokens {
		if !beginsQuery(letters[:i+1]) {
			return impl.Query{}, impl.QuerySyntax, offsets[i]
		}
	}
	return impl.Query{}, impl.QuerySyntax, len(text)
}

// oracleParts wants a query that is right, with one space between its tokens.
func oracleParts(text string) impl.Query {
	var q impl.Query
	head, body, _ := strings.Cut(text, " :- ")
	q.Name, head, _ = strings.Cut(head, " ( ")
	head, ring, _ := strings.Cut(strings.TrimSuffix(head, ")"), "; ")
	q.Head = strings.Fields(strings.ReplaceAll(head, ",", ""))
	q.Ring = map[string]int{"": 0, "count": 1, "sum": 2, "min": 3}[strings.TrimSpace(ring)]
	for _, part := range strings.SplitAfter(body, ")") {
		rel, terms, ok := strings.Cut(strings.TrimPrefix(part, " , "), " ( ")
		if !ok {
			continue
		}
		a := impl.Atom{Rel: rel}
		for _, term := range strings.Fields(strings.Trim(strings.ReplaceAll(terms, ",", ""), ")")) {
			if term[0] >= '0' && term[0] <= '9' {
				value, _ := oracleNumber(term)
				a.Terms = append(a.Terms, n(value))
			} else {
				a.Terms = append(a.Terms, v(term))
			}
		}
		q.Atoms = append(q.Atoms, a)
	}
	return q
}

// drawnQuery draws one of good shape.
func drawnQuery(r *rand.Rand) impl.Query {
	names := []string{"q", "x", "y", "z", "r", "count", "sum", "min", "rel", "A_0", strings.Repeat("n", 30)}
	name := func() string { return names[r.Intn(len(names))] }
	q := impl.Query{Name: name(), Ring: r.Intn(4)}
	for range r.Intn(4) {
		q.Head = append(q.Head, name())
	}
	for range 1 + r.Intn(4) {
		a := impl.Atom{Rel: name()}
		for range 1 + r.Intn(4) {
			if r.Intn(3) == 0 {
				a.Terms = append(a.Terms, n([]int{0, 1, 42, 999999, 1000000}[r.Intn(5)]))
			} else {
				a.Terms = append(a.Terms, v(name()))
			}
		}
		q.Atoms = append(q.Atoms, a)
	}
	return q
}

// drawnText is the text of a query with a few of its tokens changed, some
// taken away, others put in, and separators in between.
func drawnText(r *rand.Rand) string {
	pieces := []string{"x", "sum", "count", "avg", "3", "007", "1000000", "1000001", "(", ")", ",", ";", ".", ":-", ":", "-", "_", "#", "\x00", "\xff", "é", strings.Repeat("m", 31), "1x", "x_1"}
	tokens := strings.Fields(strings.NewReplacer("(", " ( ", ")", " ) ", ",", " , ", ";", " ; ", ".", " . ").Replace(impl.PrintQuery(drawnQuery(r))))
	for range r.Intn(3) {
		at := r.Intn(len(tokens))
		piece := pieces[r.Intn(len(pieces))]
		if r.Intn(2) == 0 {
			piece = pieces[r.Intn(14)]
		}
		switch r.Intn(3) {
		case 0:
			tokens[at] = piece
		case 1:
			tokens[at] = ""
		case 2:
			tokens[at] += " " + piece
		}
	}
	if r.Intn(4) == 0 {
		tokens = tokens[:r.Intn(len(tokens)+1)]
	}
	text := ""
	for _, token := range tokens {
		text += token + []string{"", " ", "\n", "\t", "\r", " \n "}[r.Intn(6)]
	}
	return text
}

func TestParseQueryAgainstOracle(t *testing.T) {
	r := rand.New(rand.NewSource(31))
	counts := map[int]int{}
	for range 30000 {
		text := drawnText(r)
		want, code, offset := oracleQuery(text)
		got, gotCode, gotOffset := impl.ParseQuery(text)
		if gotCode != code || gotOffset != offset || !sameQuery(got, want) {
			t.Fatalf("%q: %v, %d at %d, want %v, %d at %d", text, got, gotCode, gotOffset, want, code, offset)
		}
		counts[code]++
	}
	if counts[impl.QueryOK] < 5000 || counts[impl.QueryLex] < 3000 || counts[impl.QuerySyntax] < 5000 {
		t.Error("one kind of answer was rare:", counts)
	}
}

// Any bytes at all: nothing but the oracle's answer may come.
func TestParseQueryAnyBytes(t *testing.T) {
	r := rand.New(rand.NewSource(32))
	bytes := "qx(),;.:-:- \n09_#\x00\xff"
	for range 30000 {
		text := []string{"", "q", "q(x)", "q(x):-r(x)", "q(x;min):-r(x,1)"}[r.Intn(5)]
		for range r.Intn(10) {
			text += string(bytes[r.Intn(len(bytes))])
		}
		want, code, offset := oracleQuery(text)
		if got, gotCode, gotOffset := impl.ParseQuery(text); gotCode != code || gotOffset != offset || !sameQuery(got, want) {
			t.Fatalf("%q: %v, %d at %d, want %v, %d at %d", text, got, gotCode, gotOffset, want, code, offset)
		}
	}
}

func TestParseQueryNewMemory(t *testing.T) {
	text := "query(x, y, x; sum) :- relation(x, 3, y), relation(y), s(x, x)."
	q := parsed(t, text)
	for _, name := range namesOf(q) {
		if liesIn(name, text) {
			t.Error("a name lies in the text:", name)
		}
	}
	spoilQuery(t, q)
	if again := parsed(t, text); impl.PrintQuery(again) != text {
		t.Error(again)
	}
}

func TestPrintQueryPinned(t *testing.T) {
	cases := []struct {
		q    impl.Query
		want string
	}{
		{queryOf("q", []string{"x", "y"}, impl.RingSum, atomOf("r", v("x"), n(3)), atomOf("s", v("y"))), "q(x, y; sum) :- r(x, 3), s(y)."},
		{queryOf("q", nil, impl.RingSum, atomOf("r", n(1000000))), "q(; sum) :- r(1000000)."},
		{queryOf("q", []string{}, impl.RingMin, atomOf("r", n(0))), "q(; min) :- r(0)."},
		{queryOf("q", nil, impl.RingNone, atomOf("r", v("x"))), "q() :- r(x)."},
		{queryOf("q", []string{"x"}, impl.RingCount, atomOf("r", v("x"))), "q(x; count) :- r(x)."},
		{queryOf("rel", []string{"a", "b", "b"}, impl.RingNone, atomOf("rel", v("c"), v("c"), n(12), v("d"))), "rel(a, b, b) :- rel(c, c, 12, d)."},
		{queryOf("q", nil, impl.RingNone, atomOf("r", v("x")), atomOf("r", v("x")), atomOf("r", v("x"))), "q() :- r(x), r(x), r(x)."},
	}
	for _, c := range cases {
		if got := impl.PrintQuery(c.q); got != c.want {
			t.Errorf("%v: %q", c.q, got)
		}
	}
}

// badShapes breaks each condition of the good shape alone.
func badShapes() map[string]impl.Query {
	good := func() impl.Query {
		return queryOf("q", []string{"x", "y"}, impl.RingSum, atomOf("r", v("x"), n(3)), atomOf("s", v("y")))
	}
	shapes := map[string]impl.Query{"nothing": {}}
	add := func(what string, change func(*impl.Query)) {
		q := good()
		change(&q)
		shapes[what] = q
	}
	for _, name := range []string{"", "1", "_a", "a b", "a-", "é", "a\x00", " a", "a\n", "aé", strings.Repeat("n", 31), strings.Repeat("n", 100000)} {
		add("name "+name, func(q *impl.Query) { q.Name = name })
		add("head 0 "+name, func(q *impl.Query) { q.Head[0] = name })
		add("head 1 "+name, func(q *impl.Query) { q.Head[1] = name })
		add("rel 0 "+name, func(q *impl.Query) { q.Atoms[0].Rel = name })
		add("rel 1 "+name, func(q *impl.Query) { q.Atoms[1].Rel = name })
		if name != "" {
			add("var 0 "+name, func(q *impl.Query) { q.Atoms[0].Terms[0].Var = name })
			add("var 1 "+name, func(q *impl.Query) { q.Atoms[1].Terms[0].Var = name })
		}
	}
	for what, value := range map[string]int{"-1": -1, "one more": impl.MaxValue + 1, "least": math.MinInt, "greatest": math.MaxInt} {
		add("value "+what, func(q *impl.Query) { q.Atoms[0].Terms[1].Val = value })
	}
	for what, value := range map[string]int{"-1": -1, "1": 1, "MaxValue": impl.MaxValue} {
		add("value of a variable "+what, func(q *impl.Query) { q.Atoms[1].Terms[0].Val = value })
	}
	for what, ring := range map[string]int{"-1": -1, "4": 4, "least": math.MinInt, "greatest": math.MaxInt} {
		add("ring "+what, func(q *impl.Query) { q.Ring = ring })
	}
	add("no atom", func(q *impl.Query) { q.Atoms = nil })
	add("no term 0", func(q *impl.Query) { q.Atoms[0].Terms = nil })
	add("no term 1", func(q *impl.Query) { q.Atoms[1].Terms = []impl.Term{} })
	return shapes
}

func TestPrintQueryBadShapes(t *testing.T) {
	for what, q := range badShapes() {
		if got := impl.PrintQuery(q); got != "" {
			t.Errorf("%.40q: %.100q", what, got)
		}
	}
	long := strings.Repeat("n", 30)
	if impl.PrintQuery(queryOf(long, []string{long}, 0, atomOf(long, v(long)))) == "" {
		t.Error("names of MaxName bytes")
	}
}

func TestPrintQueryReadBack(t *testing.T) {
	r := rand.New(rand.NewSource(33))
	for range 5000 {
		q := drawnQuery(r)
		before := cloneQuery(q)
		text := impl.PrintQuery(q)
		if !sameQuery(q, before) {
			t.Fatal("the query was changed:", before)
		}
		if strings.Contains(text, "\n") {
			t.Fatalf("%q", text)
		}
		if back := parsed(t, text); !sameQuery(back, q) {
			t.Fatalf("%q: %v", text, back)
		}
	}
}

// A query may have a good shape though its text is too long to be read:
// 11 bytes behind the name and 6 for each further atom make just MaxQuery with
// a name of 7 bytes.
func TestPrintQueryLongTexts(t *testing.T) {
	for _, c := range []struct{ name, code int }{{7, impl.QueryOK}, {8, impl.QueryLong}} {
		q := queryOf(strings.Repeat("q", c.name), nil, impl.RingNone, atomOf("r", v("x")))
		for range 497 {
			q.Atoms = append(q.Atoms, atomOf("r", v("x")))
		}
		text := impl.PrintQuery(q)
		back, code, offset := impl.ParseQuery(text)
		if len(text) != impl.MaxQuery-7+c.name || code != c.code || offset != 0 || code == impl.QueryOK != sameQuery(back, q) {
			t.Error(len(text), code, offset)
		}
	}
	many := queryOf("q", nil, impl.RingNone)
	for range 200000 {
		many.Atoms = append(many.Atoms, atomOf("r", v("x"), n(1)))
		many.Head = append(many.Head, "x")
	}
	if text := impl.PrintQuery(many); len(text) != 200000*3-2+200000*9-2+8 {
		t.Error(len(text))
	}
}
