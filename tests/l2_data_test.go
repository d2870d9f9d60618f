package tests

import (
	"math"
	"math/big"
	"math/rand"
	"regexp"
	"slices"
	"strconv"
	"strings"
	"testing"
	"unsafe"

	"loop.example/s01205/impl"
)

func relation(name string, arity int, rows [][]int, weights ...int) impl.Relation {
	return impl.Relation{Name: name, Arity: arity, Rows: rows, Weights: weights}
}

func dataOf(rels ...impl.Relation) impl.Data { return impl.Data{Rels: rels} }

// countedRows are rows 0 to n-1 of one value, each with weight 1.
func countedRows(n int) ([][]int, []int) {
	var rows [][]int
	for i := range n {
		rows = append(rows, []int{i})
	}
	return rows, slices.Repeat([]int{1}, n)
}

func countedRelation(n int) impl.Relation {
	rows, weights := countedRows(n)
	return relation("e", 1, rows, weights...)
}

func countedRelations(n int) impl.Data {
	var d impl.Data
	for i := range n {
		d.Rels = append(d.Rels, relation("r"+strconv.Itoa(i), 1, nil))
	}
	return d
}

func TestDataOKNames(t *testing.T) {
	names := map[string]bool{
		"e": true, "E": true, "z": true, "Z": true, "a": true, "A": true, "re": true, "rela": true, "Rel": true, "rel_": true, "rel0": true,
		"a_": true, "a0": true, "a9": true, "aZ": true, "az": true, "x_Y9": true, "count": true, strings.Repeat("n", 30): true,
		"": false, "rel": false, strings.Repeat("n", 31): false, strings.Repeat("n", 4000): false, "_a": false, "0a": false, "9": false, "-": false, "#e": false,
		"a b": false, "a ": false, " a": false, "a-b": false, "a\n": false, "a\x00": false, "a.": false, "a(": false, "é": false, "aé": false, "a\xff": false,
		"@a": false, "[a": false, "`a": false, "{a": false, "a@": false, "a[": false, "a`": false, "a{": false, "a/": false, "a:": false, "a^": false,
	}
	for name, want := range names {
		if got := impl.DataOK(dataOf(relation(name, 1, nil))); got != want {
			t.Errorf("a relation named %q: %v", name, got)
		}
		// The same NAMEs are asked for by a rel line, as far as they fit into one field.
		if strings.ContainsAny(name, " \n") {
			continue
		}
		if _, line := impl.ParseData("rel " + name + " 1"); (line == 0) != want || line > 1 {
			t.Errorf("rel %q 1: %v", name, line)
		}
	}
}

func TestDataOKEdges(t *testing.T) {
	pair := [][]int{{1, 2}, {1, 3}, {2, 0}}
	cases := []struct {
		name string
		d    impl.Data
		want bool
	}{
		{"nothing", impl.Data{}, true},
		{"no relations", impl.Data{Rels: []impl.Relation{}}, true},
		{"no rows", dataOf(relation("e", 2, nil)), true},
		{"ordinary", dataOf(relation("e", 2, pair, 1, 2, 3), relation("f", 2, pair, 1, 2, 3)), true},
		{"50 relations", countedRelations(50), true},
		{"51 relations", countedRelations(51), false},
		{"names alike", dataOf(relation("e", 1, nil), relation("f", 1, nil), relation("e", 2, nil)), false},
		{"names in two cases", dataOf(relation("e", 1, nil), relation("E", 1, nil)), true},
		{"second relation wrong", dataOf(relation("e", 1, nil), relation("f", 4, nil)), false},
		{"arity 0", dataOf(relation("e", 0, nil)), false},
		{"arity 0 with the empty row", dataOf(relation("e", 0, [][]int{{}}, 1)), false},
		{"arity -1", dataOf(relation("e", -1, nil)), false},
		{"arity 1", dataOf(relation("e", 1, [][]int{{4}}, 1)), true},
		{"arity 3", dataOf(relation("e", 3, [][]int{{4, 5, 6}}, 1)), true},
		{"arity 4", dataOf(relation("e", 4, nil)), false},
		{"arity 4 with a row", dataOf(relation("e", 4, [][]int{{1, 2, 3, 4}}, 1)), false},
		{"least arity", dataOf(relation("e", math.MinInt, nil)), false},
		{"greatest arity", dataOf(relation("e", math.MaxInt, nil)), false},
		{"2000 rows", dataOf(countedRelation(2000)), true},
		{"2001 rows", dataOf(countedRelation(2001)), false},
		{"rows out of order", dataOf(relation("e", 2, [][]int{{2, 0}, {1, 3}}, 1, 1)), false},
		{"rows out of order behind", dataOf(relation("e", 2, [][]int{{1, 3}, {1, 2}}, 1, 1)), false},
		{"last row out of order", dataOf(relation("e", 1, [][]int{{1}, {3}, {2}}, 1, 1, 1)), false},
		{"rows alike", dataOf(relation("e", 2, [][]int{{1, 3}, {1, 3}}, 1, 1)), false},
		{"rows alike with other weights", dataOf(relation("e", 1, [][]int{{1}, {1}}, 1, 2)), false},
		{"a shorter row", dataOf(relation("e", 2, [][]int{{1}, {1, 2}}, 1, 1)), false},
		{"a longer row", dataOf(relation("e", 2, [][]int{{1, 2}, {1, 2, 3}}, 1, 1)), false},
		{"an empty row", dataOf(relation("e", 1, [][]int{nil}, 1)), false},
		{"value -1", dataOf(relation("e", 1, [][]int{{-1}}, 1)), false},
		{"value 0", dataOf(relation("e", 1, [][]int{{0}}, 1)), true},
		{"value 1000000", dataOf(relation("e", 3, [][]int{{0, 1, 1000000}}, 1)), true},
		{"value 1000001", dataOf(relation("e", 3, [][]int{{0, 1, 1000001}}, 1)), false},
		{"value 1000001 first", dataOf(relation("e", 2, [][]int{{0, 1}, {1000001, 1}}, 1, 1)), false},
		{"least value", dataOf(relation("e", 1, [][]int{{math.MinInt}}, 1)), false},
		{"greatest value", dataOf(relation("e", 1, [][]int{{math.MaxInt}}, 1)), false},
		{"weights at both edges", dataOf(relation("e", 1, [][]int{{1}, {2}, {3}}, -1000000, 0, 1000000)), true},
		{"weight -1000001", dataOf(relation("e", 1, [][]int{{1}, {2}}, 1, -1000001)), false},
		{"weight 1000001", dataOf(relation("e", 1, [][]int{{1}, {2}}, 1000001, 1)), false},
		{"least weight", dataOf(relation("e", 1, [][]int{{1}}, math.MinInt)), false},
		{"greatest weight", dataOf(relation("e", 1, [][]int{{1}}, math.MaxInt)), false},
		{"fewer weights", dataOf(relation("e", 1, [][]int{{1}, {2}}, 1)), false},
		{"no weights", dataOf(relation("e", 1, [][]int{{1}})), false},
		{"more weights", dataOf(relation("e", 1, [][]int{{1}, {2}}, 1, 2, 3)), false},
		{"weights without rows", dataOf(relation("e", 1, nil, 1)), false},
	}
	for _, c := range cases {
		before := cloneData(c.d)
		if got := impl.DataOK(c.d); got != c.want {
			t.Errorf("%s: %v", c.name, got)
		}
		text := impl.PrintData(c.d)
		if !c.want && text != "" {
			t.Errorf("%s: printed as %q", c.name, text)
		}
		if c.want {
			if d, line := impl.ParseData(text); line != 0 || !sameData(d, c.d) {
				t.Errorf("%s: read back as %v, %v", c.name, d, line)
			}
		}
		if !sameData(c.d, before) {
			t.Errorf("%s: the argument was changed", c.name)
		}
	}
}

func TestParseDataLines(t *testing.T) {
	long := strings.Repeat("7", 3000)
	cases := []struct {
		text string
		line int
	}{
		{"", 0}, {"\n", 0}, {"\n\n\n", 0}, {"#", 0}, {"# rel e\n#e\n", 0}, {"rel e 1", 0}, {"rel e 1\n", 0}, {"rel e 1\n\n#\ne 1 1\n\n", 0}, {"#\xff\x00\n", 0},
		{" ", 1}, {"\n ", 2}, {"\t", 1}, {"\r", 1}, {"\r\n", 1}, {" #", 1}, {"\n\n#\n \n\n", 4}, {"\x00", 1}, {"x", 1}, {"rel e 1\x00", 1},
		{"rel", 1}, {"rel ", 1}, {"rel  ", 1}, {"rel   ", 1}, {"rel e", 1}, {"rel e ", 1}, {"rel  e 1", 1}, {"rel e  1", 1}, {" rel e 1", 1}, {"rel e 1 ", 1}, {"rel e 1 1", 1}, {"Rel e 1", 1},
		{"rel e 0", 1}, {"rel e 3", 0}, {"rel e 4", 1}, {"rel e 01", 1}, {"rel e 10", 1}, {"rel e +1", 1}, {"rel e -1", 1}, {"rel e x", 1}, {"rel e 1x", 1}, {"rel e " + long, 1}, {"rel e 1\r", 1}, {"rel e 1\t", 1}, {"rel\te 1", 1}, {"rel 1 e", 1},
		{"rel rel 1", 1}, {"rel e 1\nrel 1 1", 2}, {"rel 1 1", 1}, {"rel e 1\nrel e 1", 2}, {"rel e 1\nrel f 2\nrel e 2", 3}, {"rel e 1\nrel E 1", 0}, {"rel e 1 # more", 1},
		{"e 1 1", 1}, {"e 1 1\nrel e 1", 1}, {"rel e 1\nf 1 1", 2}, {"rel e 1\nE 1 1", 2}, {"rel e 1\nee 1 1", 2}, {"rel ee 1\ne 1 1", 2}, {"rel e 1\n\n\ne  1 1\nf", 4},
		{"rel e 1\ne", 2}, {"rel e 1\ne 1", 2}, {"rel e 1\ne 1 1", 0}, {"rel e 1\ne 1 1 1", 2}, {"rel e 2\ne 1 1", 2}, {"rel e 2\ne 1 1 1", 0}, {"rel e 2\ne 1 1 1 1", 2}, {"rel e 3\ne 1 1 1", 2}, {"rel e 3\ne 1 1 1 1", 0}, {"rel e 3\ne 1 1 1 1 1", 2},
		{"rel e 1\n e 1 1", 2}, {"rel e 1\ne 1 1 ", 2}, {"rel e 1\ne 1  1", 2}, {"rel e 2\ne 1  1", 2}, {"rel e 2\ne  1 1", 2}, {"rel e 1\ne  1", 2}, {"rel e 1\ne 1 ", 2}, {"rel e 1\ne  ", 2}, {"rel e 1\ne 1 1\r\n", 2}, {"rel e 1\ne\t1 1", 2}, {"rel e 1\ne 1 1#", 2}, {"rel e 1\ne 1 1 #", 2},
		{"rel e 1\ne 0 0", 0}, {"rel e 1\ne 1000000 1000000", 0}, {"rel e 1\ne 999999 -999999", 0}, {"rel e 1\ne 1 -1000000", 0}, {"rel e 1\ne 1 -1", 0},
		{"rel e 1\ne 00 1", 2}, {"rel e 1\ne 01 1", 2}, {"rel e 1\ne 0001000000 1", 2}, {"rel e 1\ne +1 1", 2}, {"rel e 1\ne -1 1", 2}, {"rel e 1\ne -0 1", 2}, {"rel e 1\ne - 1", 2}, {"rel e 1\ne x 1", 2}, {"rel e 1\ne 1x 1", 2}, {"rel e 1\ne x1 1", 2}, {"rel e 1\ne 1.0 1", 2}, {"rel e 1\ne 1_0 1", 2}, {"rel e 1\ne 0x1 1", 2}, {"rel e 1\ne 1e1 1", 2}, {"rel e 1\ne 1000001 1", 2}, {"rel e 1\ne 10000000 1", 2}, {"rel e 1\ne /1 1", 2}, {"rel e 1\ne :1 1", 2}, {"rel e 1\ne １ 1", 2},
		{"rel e 1\ne 9223372036854775807 1", 2}, {"rel e 1\ne 9223372036854775808 1", 2}, {"rel e 1\ne 18446744073709551616 1", 2}, {"rel e 1\ne 18446744073709551617 1", 2}, {"rel e 1\ne " + long + " 1", 2},
		{"rel e 1\ne 1 00", 2}, {"rel e 1\ne 1 01", 2}, {"rel e 1\ne 1 -01", 2}, {"rel e 1\ne 1 +1", 2}, {"rel e 1\ne 1 -0", 2}, {"rel e 1\ne 1 --1", 2}, {"rel e 1\ne 1 -+1", 2}, {"rel e 1\ne 1 -", 2}, {"rel e 1\ne 1 1-", 2}, {"rel e 1\ne 1 x", 2}, {"rel e 1\ne 1 -x", 2}, {"rel e 1\ne 1 1000001", 2}, {"rel e 1\ne 1 -1000001", 2}, {"rel e 1\ne 1 -10000000", 2},
		{"rel e 1\ne 1 18446744073709551617", 2}, {"rel e 1\ne 1 -18446744073709551617", 2}, {"rel e 1\ne 1 " + long, 2}, {"rel e 1\ne 1 -" + long, 2}, {"rel e 1\ne 1 0" + long, 2},
		{"rel e 3\ne 1 1 x 1", 2}, {"rel e 3\ne 1 x 1 1", 2}, {"rel e 3\ne 1 1 1000001 1", 2}, {"rel e 3\ne 1 1 -1 1", 2},
		{"rel e 1\ne 1 1\ne 2 x\ne 3 x\nrel e 1", 3}, {"rel e 1\nrel e 1\ne x 1", 2}, {"# one\n\nbad\nworse", 3}, {"rel e 1\ne 1 1\n# e x\n\nf 1 1", 5},
	}
	for _, c := range cases {
		d, line := impl.ParseData(c.text)
		if line != c.line || line != 0 && len(d.Rels) != 0 || line == 0 && !impl.DataOK(d) {
			t.Errorf("%.80q: %v, %v, want line %v", c.text, d, line, c.line)
		}
	}
}

func TestParseDataSortsAndReplaces(t *testing.T) {
	text := "rel b 3\nb 2 0 0 1\nb 1 1 1 -5\nrel a 1\na 10 1\na 9 0\nb 1 1 0 4\nb 2 0 0 7\n# b 2 0 0 8\na 9 -1\nrel none 2\nb 0 1000000 3 9\na 10 1000000\na 9 3"
	want := dataOf(
		relation("b", 3, [][]int{{0, 1000000, 3}, {1, 1, 0}, {1, 1, 1}, {2, 0, 0}}, 9, 4, -5, 7),
		relation("a", 1, [][]int{{9}, {10}}, 3, 1000000),
		relation("none", 2, nil),
	)
	d, line := impl.ParseData(text)
	if line != 0 || !sameData(d, want) {
		t.Fatal(d, line)
	}
	printed := "rel b 3\nb 0 1000000 3 9\nb 1 1 0 4\nb 1 1 1 -5\nb 2 0 0 7\nrel a 1\na 9 3\na 10 1000000\nrel none 2\n"
	if got := impl.PrintData(d); got != printed {
		t.Errorf("printed as %q", got)
	}
	same, _ := impl.ParseData(text)
	spoilData(t, d)
	if !sameData(same, want) {
		t.Error("two answers share memory")
	}
}

func TestParseDataManyRelations(t *testing.T) {
	var text strings.Builder
	for i := range 50 {
		text.WriteString("rel r" + strconv.Itoa(i) + " 1\n")
	}
	full := text.String()
	if d, line := impl.ParseData(full); line != 0 || !sameData(d, countedRelations(50)) {
		t.Error(d, line)
	}
	if d, line := impl.ParseData(full + "r49 1 1\nr0 1 1"); line != 0 || len(d.Rels[49].Rows) != 1 {
		t.Error(d, line)
	}
	if d, line := impl.ParseData(full + "#\nrel r50 1\nbad"); line != 52 || len(d.Rels) != 0 {
		t.Error(d, line)
	}
}

func TestParseDataManyRows(t *testing.T) {
	var text strings.Builder
	text.WriteString("rel e 1\nrel f 1\n")
	for i := range 2000 {
		text.WriteString("e " + strconv.Itoa(1999-i) + " 1\n")
	}
	full := text.String()
	if d, line := impl.ParseData(full); line != 0 || !sameRelation(d.Rels[0], countedRelation(2000)) {
		t.Fatal(line)
	}
	if d, line := impl.ParseData(full + "e 2000 1\ne x"); line != 2003 || len(d.Rels) != 0 {
		t.Error(line)
	}
	d, line := impl.ParseData(full + "e 0 -8\ne 1999 9\nf 2000 1\ne 7 6\n")
	if line != 0 || len(d.Rels[0].Rows) != 2000 || d.Rels[0].Weights[0] != -8 || d.Rels[0].Weights[1999] != 9 || d.Rels[0].Weights[7] != 6 || len(d.Rels[1].Rows) != 1 {
		t.Error("a row that comes again to a full relation", line)
	}
	if _, line := impl.ParseData(full + "e 0 -8\ne 2000 1"); line != 2004 {
		t.Error("a new row to a full relation", line)
	}
}

func TestParseDataLongTexts(t *testing.T) {
	body := "rel e 1\ne 1 1\n"
	for _, fill := range []string{"\n", "#", "# "} {
		text := body + strings.Repeat(fill, impl.MaxData)[:impl.MaxData-len(body)]
		if d, line := impl.ParseData(text); line != 0 || len(d.Rels) != 1 {
			t.Errorf("MaxData bytes, filled with %q: %v", fill, line)
		}
		if d, line := impl.ParseData(text + "\n"); line != -1 || len(d.Rels) != 0 {
			t.Errorf("one byte too many, filled with %q: %v", fill, line)
		}
	}
	if _, line := impl.ParseData("bad\n" + strings.Repeat("\n", impl.MaxData)); line != -1 {
		t.Error("the length comes before a wrong line:", line)
	}
	for _, fill := range []string{" ", "9", "rel ", "x", "-"} {
		text := body + strings.Repeat(fill, impl.MaxData)[:impl.MaxData-len(body)]
		if _, line := impl.ParseData(text); line != 3 {
			t.Errorf("a long line of %q: %v", fill, line)
		}
	}
	if _, line := impl.ParseData(body + "e " + strings.Repeat("1", impl.MaxData-len(body)-2)); line != 3 {
		t.Error("a long number:", line)
	}
}

// The oracle reads lines by patterns, and keeps rows in lists.
var (
	relLine = regexp.MustCompile(`^rel ([A-Za-z][A-Za-z0-9_]{0,29}) ([123])$`)
	rowLine = regexp.MustCompile(`^([A-Za-z][A-Za-z0-9_]{0,29})((?: (?:0|[1-9][0-9]*)){1,3}) (0|-?[1-9][0-9]*)$`)
)

func oracleNumber(text string) (int, bool) {
	n, _ := new(big.Int).SetString(text, 10)
	return int(n.Int64()), n.CmpAbs(big.NewInt(1000000)) <= 0
}

func oracleRow(r *impl.Relation, values, weight string) bool {
	w, good := oracleNumber(weight)
	var row []int
	for _, field := range strings.Fields(values) {
		n, small := oracleNumber(field)
		row = append(row, n)
		good = good && small
	}
	if !good || len(row) != r.Arity {
		return false
	}
	at := 0
	for at < len(r.Rows) && slices.Compare(r.Rows[at], row) < 0 {
		at++
	}
	if at < len(r.Rows) && slices.Equal(r.Rows[at], row) {
		r.Weights[at] = w
		return true
	}
	r.Rows, r.Weights = slices.Insert(r.Rows, at, row), slices.Insert(r.Weights, at, w)
	return len(r.Rows) <= 2000
}

func oracleParse(text string) (impl.Data, int) {
	var d impl.Data
	find := func(name string) int {
		return slices.IndexFunc(d.Rels, func(r impl.Relation) bool { return r.Name == name })
	}
	for i, line := range strings.Split(text, "\n") {
		if line == "" || strings.HasPrefix(line, "#") {
			continue
		}
		if m := relLine.FindStringSubmatch(line); m != nil && find(m[1]) < 0 && m[1] != "rel" && len(d.Rels) < 50 {
			d.Rels = append(d.Rels, impl.Relation{Name: m[1], Arity: int(m[2][0] - '0')})
			continue
		}
		m := rowLine.FindStringSubmatch(line)
		if m == nil || find(m[1]) < 0 || !oracleRow(&d.Rels[find(m[1])], m[2], m[3]) {
			return impl.Data{}, i + 1
		}
	}
	return d, 0
}

func drawnField(r *rand.Rand) string {
	wrong := []string{"", "00", "01", "-0", "+1", "1000001", "-1000001", "x", "99999999999999999999", "1 2", "-", "\t1", "-1"}
	if r.Intn(60) == 0 {
		return wrong[r.Intn(len(wrong))]
	}
	if r.Intn(10) == 0 {
		return "1000000"
	}
	return strconv.Itoa(r.Intn(4))
}

func drawnLine(r *rand.Rand) string {
	names := []string{"e", "f", "g", "e", "f", "rel", "h9", "_"}
	name := names[r.Intn(5)]
	if r.Intn(60) == 0 {
		name = names[r.Intn(len(names))]
	}
	switch {
	case r.Intn(12) == 0:
		return []string{"", "#", "# e 1", "# rel"}[r.Intn(4)]
	case r.Intn(25) == 0:
		return "rel " + name + " " + drawnField(r)
	}
	arity := map[string]int{"e": 2, "f": 1, "g": 3}[name]
	if r.Intn(80) == 0 {
		arity++
	}
	fields := []string{name}
	for range arity {
		fields = append(fields, drawnField(r))
	}
	weight := drawnField(r)
	if r.Intn(3) == 0 {
		weight = strconv.Itoa(r.Intn(2000001) - 1000000)
	}
	return strings.Join(append(fields, weight), " ")
}

func TestParseDataAgainstOracle(t *testing.T) {
	r := rand.New(rand.NewSource(2))
	good := 0
	for range 6000 {
		lines := []string{"rel f 1", "rel e 2", "rel g 3"}
		r.Shuffle(len(lines), func(i, j int) { lines[i], lines[j] = lines[j], lines[i] })
		for range r.Intn(25) {
			lines = append(lines, drawnLine(r))
		}
		text := strings.Join(lines, "\n")
		if r.Intn(2) == 0 {
			text += "\n"
		}
		if r.Intn(10) == 0 {
			text = text[r.Intn(len(text)):]
		}
		want, wantLine := oracleParse(text)
		got, line := impl.ParseData(text)
		if line != wantLine || !sameData(got, want) {
			t.Fatalf("%q: %v, %v, want %v, %v", text, got, line, want, wantLine)
		}
		if line != 0 {
			continue
		}
		good++
		if back, line := impl.ParseData(impl.PrintData(got)); line != 0 || !sameData(back, want) {
			t.Fatalf("%q printed and read back: %v, %v", text, back, line)
		}
		if !impl.DataOK(got) {
			t.Fatalf("%q: data that isn't OK: %v", text, got)
		}
	}
	if good < 600 {
		t.Errorf("only %d texts were good", good)
	}
}

// Any bytes at all: nothing but the oracle's answer may come.
func TestParseDataAnyBytes(t *testing.T) {
	r := rand.New(rand.NewSource(3))
	bytes := "\n\n  rel e f 0123-#_\x00\xff\r\t"
	for range 20000 {
		var text []byte
		if r.Intn(2) == 0 {
			text = append(text, "rel e 1\ne 1 1\n"...)
		}
		for range r.Intn(12) {
			text = append(text, bytes[r.Intn(len(bytes))])
		}
		want, wantLine := oracleParse(string(text))
		if got, line := impl.ParseData(string(text)); line != wantLine || !sameData(got, want) {
			t.Fatalf("%q: %v, %v, want %v, %v", text, got, line, want, wantLine)
		}
	}
}

func TestPrintData(t *testing.T) {
	cases := []struct {
		d    impl.Data
		want string
	}{
		{impl.Data{}, ""},
		{dataOf(relation("e", 3, nil)), "rel e 3\n"},
		{dataOf(relation("e", 1, nil), relation("d", 2, nil)), "rel e 1\nrel d 2\n"},
		{dataOf(relation("z", 2, [][]int{{0, 1000000}, {3, 2}}, -1000000, 0), relation("A_1", 1, [][]int{{7}}, 1000000)), "rel z 2\nz 0 1000000 -1000000\nz 3 2 0\nrel A_1 1\nA_1 7 1000000\n"},
	}
	for _, c := range cases {
		if got := impl.PrintData(c.d); got != c.want {
			t.Errorf("%v: %q", c.d, got)
		}
	}
}

// Data may be OK though its text is too long to be read.
func TestPrintDataLongTexts(t *testing.T) {
	d := countedRelations(50)
	for i := range d.Rels {
		d.Rels[i].Rows, d.Rels[i].Weights = countedRows(2000)
	}
	text := impl.PrintData(d)
	if strings.Count(text, "\n") != 50*2001 || !strings.HasSuffix(text, "r49 1999 1\n") {
		t.Error(len(text))
	}
	if _, line := impl.ParseData(text); line != -1 {
		t.Error(line)
	}
}

// 8 bytes for each relation and 16 for each row make just MaxData bytes.
func TestPrintDataUpToTheLongestText(t *testing.T) {
	d := dataOf(relation("e", 1, nil), relation("f", 1, nil))
	for i, count := range []int{2000, 1749} {
		for j := range count {
			d.Rels[i].Rows = append(d.Rels[i].Rows, []int{100000 + j})
			d.Rels[i].Weights = append(d.Rels[i].Weights, 100000)
		}
	}
	text := impl.PrintData(d)
	if back, line := impl.ParseData(text); len(text) != impl.MaxData || line != 0 || !sameData(back, d) {
		t.Error(len(text), line)
	}
	d.Rels[1].Weights[0] = 1000000
	text = impl.PrintData(d)
	if back, line := impl.ParseData(text); len(text) != impl.MaxData+1 || line != -1 || len(back.Rels) != 0 {
		t.Error(len(text), line)
	}
}

// Names are new memory, too: no piece of the text is held on to.
func TestParseDataNamesApart(t *testing.T) {
	text := strings.Repeat("#", 100) + "\nrel edges 1\n"
	d, _ := impl.ParseData(text)
	first, at := uintptr(unsafe.Pointer(unsafe.StringData(text))), uintptr(unsafe.Pointer(unsafe.StringData(d.Rels[0].Name)))
	if d.Rels[0].Name != "edges" || first <= at && at < first+uintptr(len(text)) {
		t.Error("the name lies in the text:", d)
	}
}
